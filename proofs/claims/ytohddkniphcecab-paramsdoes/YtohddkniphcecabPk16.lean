/- Small texts, one behind the other: PmBegun, RfMedP. -/
import Derived.Test.YtohddkniphcecabPk15
import Derived.Test.YtohddkniphcecabPk9
/- The statements on package params: paramsBegun, walked. -/
namespace Go.Proofs.Ytohddkniphcecab
open Go.RowKit

theorem begun_media : Pm.media [70, 111, 114, 109, 45, 68, 97, 116, 97, 32, 59, 32, 78, 97, 109, 101, 61, 34, 97, 92, 34, 98, 34, 59, 32, 120, 61, 49] = .inr ([102, 111, 114, 109, 45, 100, 97, 116, 97], [([110, 97, 109, 101], [97, 34, 98]), ([120], [49])]) := by kernel_rfl
theorem begun_mtext : Pm.text [102, 111, 114, 109, 45, 100, 97, 116, 97] [([110, 97, 109, 101], [97, 34, 98]), ([120], [49])] = .inr [102, 111, 114, 109, 45, 100, 97, 116, 97, 59, 32, 110, 97, 109, 101, 61, 34, 97, 92, 34, 98, 34, 59, 32, 120, 61, 49] := by kernel_rfl
def begunP : List (ByteArray × ByteArray) := [(⟨#[110, 97, 109, 101]⟩, ⟨#[97, 34, 98]⟩), (⟨#[120]⟩, ⟨#[49]⟩)]

set_option maxHeartbeats 800000 in
theorem paramsBegun_any (w : World) :
    Calls Try.prog 5 #[] w fun e w' => e = .returned (.bool true) ∧ Below w.heap.size w w' := by
  have HP : Hid (∀ W, Calls Try.prog 7 #[.string ⟨#[70, 111, 114, 109, 45, 68, 97, 116, 97, 32, 59, 32, 78, 97, 109, 101, 61, 34, 97, 92, 34, 98, 34, 59, 32, 120, 61, 49]⟩] W fun e w' => ∃ ao cap, e = .returned (.tuple #[.agg #[.string ⟨#[102, 111, 114, 109, 45, 100, 97, 116, 97]⟩, .slice ao 2 cap], .int .i64 0]) ∧ OwnV w' W.heap.size 37 2 ao cap 2 (pairV begunP) ∧ Below W.heap.size W w') := fun W => by
    have := reads_of (fun W => parseP_any ⟨#[70, 111, 114, 109, 45, 68, 97, 116, 97, 32, 59, 32, 78, 97, 109, 101, 61, 34, 97, 92, 34, 98, 34, 59, 32, 120, 61, 49]⟩ W (by decide)) W
    rw [begun_media] at this
    exact this
  have HG : Hid (∀ (W : World) (ao : Option Addr) (cap : Nat), IsV W ao cap 2 (pairV begunP) → Calls Try.prog 11 #[.agg #[.string ⟨#[102, 111, 114, 109, 45, 100, 97, 116, 97]⟩, .slice ao 2 cap], .string ⟨#[110, 97, 109, 101]⟩] W fun e w' => e = .returned (.tuple #[.string ⟨#[97, 34, 98]⟩, .bool true]) ∧ Below W.heap.size W w') := fun W ao cap h => by
    have := getP_any ⟨#[102, 111, 114, 109, 45, 100, 97, 116, 97]⟩ begunP ⟨#[110, 97, 109, 101]⟩ ao cap 2 W h rfl (by decide) (fun p hp => by simp [begunP] at hp; rcases hp with rfl | rfl <;> decide)
    exact this
  have HT : Hid (∀ (W : World) (ao : Option Addr) (cap : Nat), IsV W ao cap 2 (pairV begunP) → Calls Try.prog 9 #[.agg #[.string ⟨#[102, 111, 114, 109, 45, 100, 97, 116, 97]⟩, .slice ao 2 cap]] W fun e w' => e = .returned (.tuple #[.string ⟨#[102, 111, 114, 109, 45, 100, 97, 116, 97, 59, 32, 110, 97, 109, 101, 61, 34, 97, 92, 34, 98, 34, 59, 32, 120, 61, 49]⟩, .int .i64 0]) ∧ Below W.heap.size W w') := fun W ao cap h => by
    refine (textP_any ⟨#[102, 111, 114, 109, 45, 100, 97, 116, 97]⟩ begunP ao cap 2 W h rfl (by decide) (by decide) (fun p hp => by simp [begunP] at hp; rcases hp with rfl | rfl <;> decide)).mono ?_
    rintro e w' ⟨⟨x, c, rfl, hm⟩, hb⟩
    have e1 : Pm.text (⟨#[102, 111, 114, 109, 45, 100, 97, 116, 97]⟩ : ByteArray).data.toList (parL begunP) = .inr [102, 111, 114, 109, 45, 100, 97, 116, 97, 59, 32, 110, 97, 109, 101, 61, 34, 97, 92, 34, 98, 34, 59, 32, 120, 61, 49] := begun_mtext
    rw [e1] at hm
    obtain ⟨rfl, hx⟩ := hm
    rw [Ch.str_eq hx]
    exact ⟨rfl, hb⟩
  go_enter Try.func5, Try.ntmps5
  go_wp2_with fail
  refine (HP.out _).mono ?_
  rintro e w1 ⟨ao, cap, rfl, ho, hb1⟩
  have HX1 := Hid.mk' (BoxM.start w1 ⟨#[102, 111, 114, 109, 45, 100, 97, 116, 97]⟩ ao 2 cap)
  have HO1 := Hid.mk' ho.isV
  have HB1 := Hid.mk' hb1
  clear ho hb1 HP
  go_wp2_with fail
  refine (HG.out _ _ _ (HO1.out.stay HX1.out.below)).mono ?_
  rintro e w2 ⟨rfl, hb2⟩
  have HX2 := Hid.mk' (HX1.out.keep hb2)
  obtain ⟨c0, c1⟩ := HX2.out.cells
  clear hb2 HX1 HG
  go_wp2_with fail
  refine (HT.out _ _ _ (HO1.out.stay HX2.out.below)).mono ?_
  rintro e w3 ⟨rfl, hb3⟩
  have HB3 := Hid.mk' (then_ HB1.out (HX2.out.keep hb3).below)
  clear hb3 HT c0 c1
  go_wp2
  go_ret
  exact ⟨rfl, HB3.out⟩
end Go.Proofs.Ytohddkniphcecab

/- The document's own answer: MediaOf: pieces of its text, and what they may answer. -/
namespace Go.Proofs.Ytohddkniphcecab
open Go.RowKit

/-- a piece of a text, by the way to it -/
def subAt : List Nat → Code → Code
  | [], c => c
  | 0 :: p, .seq x _ => subAt p x
  | _ :: p, .seq _ y => subAt p y
  | _ :: p, .loop c => subAt p c
  | _ :: p, .block _ c => subAt p c
  | _ :: p, .scope c => subAt p c
  | 0 :: p, .cond _ x _ => subAt p x
  | _ :: p, .cond _ _ y => subAt p y
  | _, c => c
noncomputable def medLoop1 : Code := subAt [1, 1, 1, 1, 1, 1, 1, 1, 0] (Try.f8.body.getD .skip)
noncomputable def medLoop2 : Code := subAt [1, 1, 1, 1, 1, 1, 1, 1, 0, 0, 0, 1, 1, 1, 1, 1, 1, 1, 1, 0, 1, 0, 1, 1, 0, 0] (Try.f8.body.getD .skip)
noncomputable def medLoop3 : Code := subAt [1, 1, 1, 1, 1, 1, 1, 1, 0, 0, 0, 1, 1, 1, 1, 1, 1, 1, 1, 1, 0, 1, 0] (Try.f8.body.getD .skip)
/-- what is answered from within -/
def MedRet (w : World) (m : Nat ⊕ (List UInt8 × List Pm.Par)) (Q0 : Exit → Act → World → Prop) : Prop :=
  ∀ (tm : Array Value) (c : Int) (v0 v1 : Value) (w' : World), tm[2]? = some (.pointer (some ⟨w.heap.size, 0, none⟩)) → tm[3]? = some (.int .i64 c) → w'.cell? ⟨w.heap.size, 0, none⟩ = some v0 → w'.cell? ⟨w.heap.size, 1, none⟩ = some v1 →
    MedOut w m (.returned (.tuple #[.agg #[v0, v1], .int .i64 c])) w' → Q0 .ret ⟨tm, []⟩ w'
theorem MedRet.bad {w : World} {m : Nat ⊕ (List UInt8 × List Pm.Par)} {Q0 : Exit → Act → World → Prop} (H : MedRet w m Q0) {c : Nat} (hm : m = .inl c) (tm : Array Value) (w' : World) (h2 : tm[2]? = some (.pointer (some ⟨w.heap.size, 0, none⟩))) (h3 : tm[3]? = some (.int .i64 (c : Int)))
    (hc0 : w'.cell? ⟨w.heap.size, 0, none⟩ = some (.string ⟨#[]⟩)) (hc1 : w'.cell? ⟨w.heap.size, 1, none⟩ = some (.slice none 0 0)) (hb : Below w.heap.size w w') : Q0 .ret ⟨tm, []⟩ w' :=
  H tm c _ _ w' h2 h3 hc0 hc1 (MedOut.bad hm hb)
/-- a code from within a loop -/
def CodeRet (w : World) (c : Nat) (P : Prop) (Q0 : Exit → Act → World → Prop) : Prop :=
  ∀ (tm : Array Value) (w' : World), tm[2]? = some (.pointer (some ⟨w.heap.size, 0, none⟩)) → tm[3]? = some (.int .i64 (c : Int)) → w'.cell? ⟨w.heap.size, 0, none⟩ = some (.string ⟨#[]⟩) → w'.cell? ⟨w.heap.size, 1, none⟩ = some (.slice none 0 0) → Below w.heap.size w w' → P → Q0 .ret ⟨tm, []⟩ w'
theorem zero_cells {w wr : World} (c0 : wr.cell? ⟨w.heap.size, 0, none⟩ = some (.string ⟨#[]⟩)) (c1 : wr.cell? ⟨w.heap.size, 1, none⟩ = some (.slice none 0 0)) :
    ((wr.setCell ⟨w.heap.size, 0, none⟩ (.string ⟨#[]⟩)).setCell ⟨w.heap.size, 1, none⟩ (.slice none 0 0)).cell? ⟨w.heap.size, 0, none⟩ = some (.string ⟨#[]⟩) ∧ ((wr.setCell ⟨w.heap.size, 0, none⟩ (.string ⟨#[]⟩)).setCell ⟨w.heap.size, 1, none⟩ (.slice none 0 0)).cell? ⟨w.heap.size, 1, none⟩ = some (.slice none 0 0) := by
  constructor
  · rw [World.cell?_setCell_other (h := by intro h; injection h with _ h2; cases h2), World.cell?_setCell_same wr _ _ c0]
  · exact World.cell?_setCell_same _ _ _ (by rw [World.cell?_setCell_other (h := by intro h; injection h with _ h2; cases h2)]; exact c1)
end Go.Proofs.Ytohddkniphcecab
