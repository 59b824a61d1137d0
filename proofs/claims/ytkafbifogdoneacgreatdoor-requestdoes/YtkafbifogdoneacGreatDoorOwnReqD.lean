/- THE CARD OF RequestDoes: for all bytes, heads, bodies and events, request answers as the document says (events, Busy, Dead, the text of a request, Join); no argument turns; the tables of math/bits, internal/strconv and unicode/utf8 start as the text of the program lays them. -/
import Derived.Test.YtkafbifogdoneacGreatDoorCards
import Derived.Test.YtkafbifogdoneacGreatDoorTie
import Derived.Test.YtkafbifogdoneacGreatDoorRqLawD
import Derived.Test.YtkafbifogdoneacGreatDoorRfReqs
import Derived.Test.YtkafbifogdoneacGreatDoorPk7
import Derived.Test.YtkafbifogdoneacGreatDoorRowKitTU
import Derived.ProofKit
import Derived.OpenShut
import Derived.Deep.DeepHandedRow
import Derived.Lib.LaidTab
namespace Go.Proofs.YtkafbifogdoneacGreatDoor.requestDoes
open Go.ChangeShapes Go.WideShapes Go.ChangeAt Go.RowKit

theorem own : ownKnob Tryz.prog.godebug = none := by kernel_rfl
theorem cells_u8 : Tryz.prog.cellsOf 5 = 1 := by kernel_rfl
theorem bytes_u8 : Tryz.prog.bytesOf 5 = 1 := by kernel_rfl
theorem evT : EvT Tryz.prog 32 25 51 9 3 22 5 30 23 :=
  ⟨⟨_, _, _, _, _, Tryz.underlying32, rfl, rfl, rfl, rfl, rfl, rfl, rfl, rfl, rfl, rfl⟩, ⟨_, _, _, _, _, Tryz.underlying25, rfl, rfl, rfl, rfl, rfl, rfl, rfl, rfl, rfl, rfl⟩, ⟨_, _, Tryz.underlying51, rfl, rfl, rfl, rfl⟩, ⟨_, _, _, _, Tryz.underlying30, rfl, rfl, rfl, rfl, rfl, rfl, rfl, rfl⟩,
    Tryz.underlying23, Tryz.underlying22, Tryz.underlying5, Tryz.underlying9, Tryz.underlying3, by kernel_rfl, by kernel_rfl, by kernel_rfl, by kernel_rfl, by kernel_rfl, by kernel_rfl, by kernel_rfl, by kernel_rfl, by kernel_rfl, by kernel_rfl, by kernel_rfl⟩

set_option maxRecDepth 100000 in
/-- What the walk gives, for every argument. -/
theorem contract (H : Type) (enc : TypeId × Value → H) (W : World) (base : Nat) (args : Array Value) (ds gs : List (DataW H)) (before : List MemPlace)
    (hval : ∀ (j : Nat) t v, Tryz.f3.params[j]? = some t → args[j]? = some v → Value.okWide Tryz.prog W .any base t v)
    (hW : DataW.Whole enc Tryz.prog Tryz.f3.params.toList Rows.requestDoesSpec.vars false W args.toList ds gs before)
    (hwt : (DataW.weightsEach Tryz.prog (Tryz.f3.params.toList ++ (OpenSpec.ofChange Rows.requestDoesSpec).bare.plain.varTypes Tryz.prog) (ds ++ gs)).all (· ≤ reachBytes) = true)
    (hLd : laidMetH Tryz.prog Rows.requestDoesRow.laid W) :
    Calls Tryz.prog 3 args W fun e W' => ∃ v, e = .returned v ∧ Rows.requestDoesSpec.post enc Tryz.prog Tryz.f3 false true false false W args v W' := by
  have hW' := hW
  obtain ⟨p, q, hA0, hV, rfl, hfz, hnd⟩ := hW
  have hA : DataW.TrodAll enc Tryz.prog W 0 (fun _ => true) true Tryz.f3.params.toList args.toList ds p := hA0
  have hvt : (OpenSpec.ofChange Rows.requestDoesSpec).bare.plain.varTypes Tryz.prog = [] := by kernel_rfl
  rw [hvt, List.append_nil] at hwt
  rw [Tryz.params3] at hA hval hwt
  obtain ⟨v0, vs0, d0, ds0, p0, q0, hargs, rfl, rfl, h0, r0⟩ := trodAll_cons hA
  obtain ⟨v1, vs1, d1, ds1, p1, q1, rfl, rfl, rfl, h1, r1⟩ := trodAll_cons r0
  obtain ⟨v2, vs2, d2, ds2, p2, q2, rfl, rfl, rfl, h2, r2⟩ := trodAll_cons r1
  obtain ⟨v3, vs3, d3, ds3, p3, q3, rfl, rfl, rfl, h3, r3⟩ := trodAll_cons r2
  obtain ⟨rfl, rfl, rfl⟩ := trodAll_nil r3
  obtain rfl : args = #[v0, v1, v2, v3] := by cases args; simp_all
  obtain ⟨rfl, rfl⟩ := trodVars_none hV
  have hLt := light_all hwt
  obtain ⟨L0, hL0⟩ := light_first hLt
  obtain ⟨L1, hL1⟩ := light_first hL0
  obtain ⟨L2, hL2⟩ := light_first hL1
  obtain ⟨L3, _⟩ := light_first hL2
  obtain ⟨a0, l0, k0, rfl⟩ := okWide_slice Tryz.underlying22 (hval 0 22 v0 rfl rfl)
  obtain ⟨c1, rfl, _⟩ := okWide_struct Tryz.underlying25 (hval 1 25 v1 rfl rfl)
  obtain ⟨a2, l2, k2, rfl⟩ := okWide_slice Tryz.underlying22 (hval 2 22 v2 rfl rfl)
  obtain ⟨a3, l3, k3, rfl⟩ := okWide_slice Tryz.underlying26 (hval 3 26 v3 rfl rfl)
  have h0k := h0
  have h1k := h1
  have h2k := h2
  have h3k := h3
  obtain ⟨f0, hf0⟩ := h0
  obtain ⟨f1, hf1⟩ := h1
  obtain ⟨f2, hf2⟩ := h2
  obtain ⟨f3, hf3⟩ := h3
  obtain ⟨m1, t1, mi1, ln1, fo1, fc1, fl1, e1, hF1, z1, z2, z3⟩ := open_head (s := 9) (i := 3) (u := 23) (e := 51) Tryz.underlying25 rfl rfl rfl rfl rfl rfl rfl rfl rfl rfl Tryz.underlying23 Tryz.underlying51 rfl rfl rfl rfl Tryz.underlying9 Tryz.underlying3 (by kernel_rfl) (by kernel_rfl) (by kernel_rfl) (by kernel_rfl) (by kernel_rfl) hf1 L1
  obtain rfl : c1 = #[.string m1, .string t1, .int .i64 mi1, .slice fo1 fl1.length fc1, .int .i64 ln1] := by
    cases c1; simpa [Value.cells] using e1
  obtain ⟨a0', k0', A, e0, hA0', sp0⟩ := open_bytes Tryz.underlying22 Tryz.underlying5 cells_u8 hf0
  obtain ⟨rfl, rfl, rfl⟩ : a0 = a0' ∧ l0 = A.length ∧ k0 = k0' := by simpa [Value.cells] using e0
  obtain ⟨a2', k2', B, e2, hB2, sp2⟩ := open_bytes Tryz.underlying22 Tryz.underlying5 cells_u8 hf2
  obtain ⟨rfl, rfl, rfl⟩ : a2 = a2' ∧ l2 = B.length ∧ k2 = k2' := by simpa [Value.cells] using e2
  obtain ⟨es, hel, hEs, hEl⟩ := open_events evT Tryz.underlying26 hf3 L3
  have s0 := sp0.light Tryz.underlying22 bytes_u8 L0
  have s2 := sp2.light Tryz.underlying22 bytes_u8 L2
  have s3 := pairs_many (k := 184) Tryz.underlying26 (by kernel_rfl) hf3 L3
  have hPw : PowAt W := pow_of_laid hLd
  clear hA0
  simp only [List.append_nil] at hW'
  have hlt : ∀ x ∈ p0 ++ (p1 ++ (p2 ++ p3)), x.block < W.heap.size := fun x hx => by simpa using hW'.lt x (by simpa using hx)
  have hr : reachBytes = 140737488351232 := rfl
  rw [hr] at z1 z2 z3 s0 s2 s3
  have hSm : ∀ e ∈ es, e.Small := fun e he => by
    have h := hEl e he
    have q := h.many; have q1 := h.method; have q2 := h.target; have q3 := h.bytes; have q4 := h.pname; have q5 := h.pfile; have q6 := h.ptype; have q7 := h.pbytes
    rw [hr] at q q1 q2 q3 q4 q5 q6 q7
    refine ⟨by omega, by omega, fun x hx => ?_, by omega, by omega, by omega, by omega, by omega, by omega⟩
    have := h.fields x hx
    rw [hr] at this
    omega
  have walk : Calls Tryz.prog 3 #[.slice a0 A.length k0, .agg #[.string m1, .string t1, .int .i64 mi1, .slice fo1 fl1.length fc1, .int .i64 ln1], .slice a2 B.length k2, .slice a3 l3 k3] W fun e w' => e = .returned (.bool true) ∧ Below W.heap.size W w' :=
    requestDoes_of W A B m1 t1 mi1 ln1 fl1 es a0 a2 fo1 a3 k0 k2 fc1 k3 A.length B.length l3 hA0' rfl hB2 rfl hF1 hEs hel
      (fun p hp => by have := z3 p hp; unfold maxLen; omega) (by omega) (by omega) (by omega) (by omega) (by omega) hSm hPw
      (fun X hX h9 => requests_any A a0 k0 X (hA0'.stay hX) h9)
  refine walk.mono fun e W' ⟨he, hg⟩ => ?_
  subst he
  refine ⟨_, rfl, _, _, _, [], _, [], hW', trodAll_cons_mk (shut_bool Tryz.underlying4 _) trodAll_mk0, trodAll_cons_mk (Below.trod laid_out (by kernel_rfl) (of_decide_eq_true (by kernel_rfl)) h0k hg (fun x hx => hlt x (by simp [hx]))) (trodAll_cons_mk (Below.trod laid_out (by kernel_rfl) (of_decide_eq_true (by kernel_rfl)) h1k hg (fun x hx => hlt x (by simp [hx]))) (trodAll_cons_mk (Below.trod laid_out (by kernel_rfl) (of_decide_eq_true (by kernel_rfl)) h2k hg (fun x hx => hlt x (by simp [hx]))) (trodAll_cons_mk (Below.trod laid_out (by kernel_rfl) (of_decide_eq_true (by kernel_rfl)) h3k hg (fun x hx => hlt x (by simp [hx]))) trodAll_mk0))), rfl, hg.frame _, fun h => by cases h⟩

/-- A world for the witness: the settled one, the five tables holding what the row lists. -/
theorem laidWorld (os : Os) (H : Type) (enc : TypeId × Value → H) : ∃ w0 : World, w0.os = os ∧
    (w0.forCall (fun _ _ => 0) ⟨#[], #[.slice none 0 0, .agg #[.string .empty, .string .empty, .int .i64 0, .slice none 0 0, .int .i64 0], .slice none 0 0, .slice none 0 0], []⟩).variablesB Tryz.checked.prog = true ∧
    ((w0.forCall (fun _ _ => 0) ⟨#[], #[.slice none 0 0, .agg #[.string .empty, .string .empty, .int .i64 0, .slice none 0 0, .int .i64 0], .slice none 0 0, .slice none 0 0], []⟩).heap.toList.drop Tryz.checked.prog.globals.size).take ((begin Tryz.checked.prog (fun _ _ => 0) default).world.heap.size - Tryz.checked.prog.globals.size) =
      (begin Tryz.checked.prog (fun _ _ => 0) default).world.heap.toList.drop Tryz.checked.prog.globals.size ∧
    Input.okWideB Tryz.checked.prog (w0.forCall (fun _ _ => 0) ⟨#[], #[.slice none 0 0, .agg #[.string .empty, .string .empty, .int .i64 0, .slice none 0 0, .int .i64 0], .slice none 0 0, .slice none 0 0], []⟩) 3 ⟨#[], #[.slice none 0 0, .agg #[.string .empty, .string .empty, .int .i64 0, .slice none 0 0, .int .i64 0], .slice none 0 0, .slice none 0 0], []⟩ = true ∧
    laidMet Tryz.prog Rows.requestDoesRow.laid (w0.forCall (fun _ _ => 0) ⟨#[], #[.slice none 0 0, .agg #[.string .empty, .string .empty, .int .i64 0, .slice none 0 0, .int .i64 0], .slice none 0 0, .slice none 0 0], []⟩).memory ∧
    ∃ places, DataW.whole enc Tryz.prog (w0.forCall (fun _ _ => 0) ⟨#[], #[.slice none 0 0, .agg #[.string .empty, .string .empty, .int .i64 0, .slice none 0 0, .int .i64 0], .slice none 0 0, .slice none 0 0], []⟩).memory Tryz.f3.params.toList Rows.requestDoesSpec.vars false #[Value.slice none 0 0, Value.agg #[.string .empty, .string .empty, .int .i64 0, .slice none 0 0, .int .i64 0], Value.slice none 0 0, Value.slice none 0 0].toList 8 = some ([.nil, .agg [.lit (.string []), .lit (.string []), .lit (.int .i64 0), .nil, .lit (.int .i64 0)], .nil, .nil], [], places) :=
  ⟨{ World.holding Tryz.prog os ⟨#[], #[], []⟩ with heap := laidHeap (World.holding Tryz.prog os ⟨#[], #[], []⟩).heap }, rfl, by kernel_rfl, by kernel_rfl, by kernel_rfl, laidMet_of_run' 8 (by kernel_rfl) (by kernel_rfl), [], by kernel_rfl⟩

set_option maxRecDepth 100000 in
theorem lifted (os : Os) (started : os.Started) (H : Type) (enc : TypeId × Value → H) (F : Stop.Interp) :
    ReturnsInHanded {} Tryz.checked os 3 .any ((OpenSpec.ofChange Rows.requestDoesSpec).preRow enc Tryz.prog Tryz.f3 Rows.requestDoesRow.domain false Rows.requestDoesRow.laid) (((OpenSpec.ofChange Rows.requestDoesSpec).at F).post enc Tryz.prog Tryz.f3 false true false false) := by
  obtain ⟨w0, hos, hv, hr, hok, hl, places, hx⟩ := laidWorld os H enc
  refine returnsInHanded_of_row (C := Tryz.checked) (s := OpenSpec.ofChange Rows.requestDoesSpec) own started (by kernel_rfl) Tryz.func3
    (witness_row_at (enc := enc) (C := Tryz.checked) false w0 #[.slice none 0 0, .agg #[.string .empty, .string .empty, .int .i64 0, .slice none 0 0, .int .i64 0], .slice none 0 0, .slice none 0 0] hos hv hr hok
      (OpenSpec.preRow_of_cond 8 hx (by kernel_rfl) (fun k hk => by cases hk) (by kernel_rfl) hl)) ?_
  intro W base args ds gs before hval hW _ _ hwt hLd _ _
  exact contract H enc W base args ds gs before hval hW hwt hLd

theorem said : Rows.RequestDoesSaid :=
  OpenClaim.holds_of_cond 3 Tryz.f3 rfl rfl rfl rfl rfl rfl rfl ⟨rfl, rfl, rfl, rfl, rfl⟩ rfl rfl rfl rfl rfl (by kernel_rfl) Tryz.func3 (by kernel_rfl)
    (of_decide_eq_true (by kernel_rfl)) (by unfold Func.isWrapper; first | (rw [if_pos (by decide +kernel)]; kernel_rfl) | (rw [if_neg (by decide +kernel)]; exact ⟨rfl, rfl⟩))
    (fun os started H enc _ F => by rw [OpenClaim.pre_eq_preRow]; exact lifted os started H enc F)

theorem plain (f : FuncId) (fn : Func) (hf : Tryz.pinned.checked.prog.funcNamed "lighterage/lighteragelaw.RequestDoes" = some f) (hfn : Tryz.pinned.checked.prog.funcs[f]? = some fn) :
    true = Tryz.pinned.checked.prog.looks [] ∧ ∀ (j : Nat) t, fn.params[j]? = some t → Tryz.pinned.checked.prog.wantsStandIn t = false := by
  obtain rfl : f = 3 := Option.some.inj ((show Tryz.prog.funcNamed "lighterage/lighteragelaw.RequestDoes" = some 3 by kernel_rfl).symm.trans hf) |>.symm
  obtain rfl : fn = Tryz.f3 := (Option.some.inj (Tryz.func3.symm.trans hfn)).symm
  refine ⟨by kernel_rfl, fun j t ht => ?_⟩
  rw [Tryz.params3] at ht
  have ht' := Array.mem_of_getElem? ht
  simp only [List.mem_toArray, List.mem_cons, List.mem_nil_iff, or_false] at ht'
  rcases ht' with rfl | rfl | rfl | rfl
  · exact (show Tryz.prog.wantsStandIn 22 = false by kernel_rfl)
  · exact (show Tryz.prog.wantsStandIn 25 = false by kernel_rfl)
  · exact (show Tryz.prog.wantsStandIn 22 = false by kernel_rfl)
  · exact (show Tryz.prog.wantsStandIn 26 = false by kernel_rfl)

end Go.Proofs.YtkafbifogdoneacGreatDoor.requestDoes

namespace Go.Proofs.YtkafbifogdoneacGreatDoor
open Go

/-- THE CARD. -/
theorem requestDoes_card : Rows.RequestDoesCardSaid :=
  Claim7.holds_tied_plain_at .later [] _ _ _ _ requestDoes.said (fun _ h => by cases h) (by kernel_rfl) (fun _ h => by cases h) requestDoes_row_tie rfl ⟨rfl, rfl⟩ (by kernel_rfl) rfl requestDoes.plain (by kernel_rfl)
end Go.Proofs.YtkafbifogdoneacGreatDoor
