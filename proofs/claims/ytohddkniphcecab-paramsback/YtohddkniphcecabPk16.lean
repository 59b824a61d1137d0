/- Small texts, one behind the other: PmBegun, LwGreatM, PmLawB, RowKit0. -/
import Derived.Test.YtohddkniphcecabPk15
import Derived.Test.YtohddkniphcecabPk14
import Derived.Test.YtohddkniphcecabProg
import Derived.ProofKit
import Derived.OpenShut
/- The statements on package params: paramsBegun, walked. -/
namespace Go.Proofs.Ytohddkniphcecab
open Go.RowKit

theorem begun_media : Pm.media [70, 111, 114, 109, 45, 68, 97, 116, 97, 32, 59, 32, 78, 97, 109, 101, 61, 34, 97, 92, 34, 98, 34, 59, 32, 120, 61, 49] = .inr ([102, 111, 114, 109, 45, 100, 97, 116, 97], [([110, 97, 109, 101], [97, 34, 98]), ([120], [49])]) := by kernel_rfl
theorem begun_mtext : Pm.text [102, 111, 114, 109, 45, 100, 97, 116, 97] [([110, 97, 109, 101], [97, 34, 98]), ([120], [49])] = .inr [102, 111, 114, 109, 45, 100, 97, 116, 97, 59, 32, 110, 97, 109, 101, 61, 34, 97, 92, 34, 98, 34, 59, 32, 120, 61, 49] := by kernel_rfl
def begunP : List (ByteArray × ByteArray) := [(⟨#[110, 97, 109, 101]⟩, ⟨#[97, 34, 98]⟩), (⟨#[120]⟩, ⟨#[49]⟩)]

set_option maxHeartbeats 800000 in
theorem paramsBegun_any (w : World) :
    Calls Try.prog 5 #[] w fun e w' => e = .returned (.bool true) ∧ Below w.heap.size w w' := by
  have HP : Hid (∀ W, Calls Try.prog 7 #[.string ⟨#[70, 111, 114, 109, 45, 68, 97, 116, 97, 32, 59, 32, 78, 97, 109, 101, 61, 34, 97, 92, 34, 98, 34, 59, 32, 120, 61, 49]⟩] W fun e w' => ∃ ao cap, e = .returned (.tuple #[.agg #[.string ⟨#[102, 111, 114, 109, 45, 100, 97, 116, 97]⟩, .slice ao 2 cap], .int .i64 0]) ∧ OwnV w' W.heap.size 37 2 ao cap 2 (pairV begunP) ∧ Below W.heap.size W w') := fun W => by
    have := reads_of (fun W => parseP_any ⟨#[70, 111, 114, 109, 45, 68, 97, 116, 97, 32, 59, 32, 78, 97, 109, 101, 61, 34, 97, 92, 34, 98, 34, 59, 32, 120, 61, 49]⟩ W (by decide)) W
    rw [begun_media] at this
    exact this
  have HG : Hid (∀ (W : World) (ao : Option Addr) (cap : Nat), IsV W ao cap 2 (pairV begunP) → Calls Try.prog 11 #[.agg #[.string ⟨#[102, 111, 114, 109, 45, 100, 97, 116, 97]⟩, .slice ao 2 cap], .string ⟨#[110, 97, 109, 101]⟩] W fun e w' => e = .returned (.tuple #[.string ⟨#[97, 34, 98]⟩, .bool true]) ∧ Below W.heap.size W w') := fun W ao cap h => by
    have := getP_any ⟨#[102, 111, 114, 109, 45, 100, 97, 116, 97]⟩ begunP ⟨#[110, 97, 109, 101]⟩ ao cap 2 W h rfl (by decide) (fun p hp => by simp [begunP] at hp; rcases hp with rfl | rfl <;> decide)
    exact this
  have HT : Hid (∀ (W : World) (ao : Option Addr) (cap : Nat), IsV W ao cap 2 (pairV begunP) → Calls Try.prog 9 #[.agg #[.string ⟨#[102, 111, 114, 109, 45, 100, 97, 116, 97]⟩, .slice ao 2 cap]] W fun e w' => e = .returned (.tuple #[.string ⟨#[102, 111, 114, 109, 45, 100, 97, 116, 97, 59, 32, 110, 97, 109, 101, 61, 34, 97, 92, 34, 98, 34, 59, 32, 120, 61, 49]⟩, .int .i64 0]) ∧ Below W.heap.size W w') := fun W ao cap h => by
    refine (textP_any ⟨#[102, 111, 114, 109, 45, 100, 97, 116, 97]⟩ begunP ao cap 2 W h rfl (by decide) (by decide) (fun p hp => by simp [begunP] at hp; rcases hp with rfl | rfl <;> decide)).mono ?_
    rintro e w' ⟨⟨x, c, rfl, hm⟩, hb⟩
    have e1 : Pm.text (⟨#[102, 111, 114, 109, 45, 100, 97, 116, 97]⟩ : ByteArray).data.toList (parL begunP) = .inr [102, 111, 114, 109, 45, 100, 97, 116, 97, 59, 32, 110, 97, 109, 101, 61, 34, 97, 92, 34, 98, 34, 59, 32, 120, 61, 49] := begun_mtext
    rw [e1] at hm
    obtain ⟨rfl, hx⟩ := hm
    rw [Ch.str_eq hx]
    exact ⟨rfl, hb⟩
  go_enter Try.func5, Try.ntmps5
  go_wp2_with fail
  refine (HP.out _).mono ?_
  rintro e w1 ⟨ao, cap, rfl, ho, hb1⟩
  have HX1 := Hid.mk' (BoxM.start w1 ⟨#[102, 111, 114, 109, 45, 100, 97, 116, 97]⟩ ao 2 cap)
  have HO1 := Hid.mk' ho.isV
  have HB1 := Hid.mk' hb1
  clear ho hb1 HP
  go_wp2_with fail
  refine (HG.out _ _ _ (HO1.out.stay HX1.out.below)).mono ?_
  rintro e w2 ⟨rfl, hb2⟩
  have HX2 := Hid.mk' (HX1.out.keep hb2)
  obtain ⟨c0, c1⟩ := HX2.out.cells
  clear hb2 HX1 HG
  go_wp2_with fail
  refine (HT.out _ _ _ (HO1.out.stay HX2.out.below)).mono ?_
  rintro e w3 ⟨rfl, hb3⟩
  have HB3 := Hid.mk' (then_ HB1.out (HX2.out.keep hb3).below)
  clear hb3 HT c0 c1
  go_wp2
  go_ret
  exact ⟨rfl, HB3.out⟩
end Go.Proofs.Ytohddkniphcecab

/- The statements' own: greatMedia, walked: if it says no, all is small. -/
namespace Go.Proofs.Ytohddkniphcecab
open Go.RowKit

/-- a value that is small -/
def SmallM (wd : ByteArray) (l : List (ByteArray × ByteArray)) : Prop := l.length ≤ 50 ∧ wd.size ≤ 2000 ∧ ∀ p ∈ l, p.1.size ≤ 2000 ∧ p.2.size ≤ 2000

set_option maxHeartbeats 1600000 in
theorem greatMedia_any (wd : ByteArray) (l : List (ByteArray × ByteArray)) (ao : Option Addr) (cap n : Nat) (w : World) (hl : IsV w ao cap n (pairV l)) (hn : l.length = n) (hwz : wd.size ≤ 140737488355328) (hz : ∀ p ∈ l, p.1.size ≤ 140737488355328 ∧ p.2.size ≤ 140737488355328) :
    Calls Try.prog 6 #[.agg #[.string wd, .slice ao n cap]] w fun e w' => ∃ b : Bool, e = .returned (.bool b) ∧ (b = false → SmallM wd l) ∧ Below w.heap.size w w' := by
  subst hn
  have HI := Hid.mk' hl
  have HZ := Hid.mk' hz
  have HB0 := Hid.mk' (BoxM.start w wd ao l.length cap)
  clear hl hz
  go_enter Try.func6, Try.ntmps6
  go_wp2
  go_loopw [3, 4] (fun s t wr => ∃ (k : Nat) (x : Nat), k ≤ l.length ∧ k ≤ 100 ∧ t = .int .i64 k ∧ s = .int .i64 x ∧ x ≤ 140737488355328 + k * 281474976710656 ∧ wd.size ≤ x ∧ (∀ p ∈ l.take k, p.1.size + p.2.size ≤ x) ∧ BoxM w wd ao l.length cap wr) (fun _ t _ => 100 - (intOf t).toNat)
  case atStart => exact ⟨0, wd.size, Nat.zero_le _, by omega, rfl, rfl, by omega, Nat.le_refl _, fun p hp => by simp at hp, HB0.out⟩
  case round =>
    clear HB0
    obtain ⟨k, x, hk, hk1, rfl, rfl, hx, hxw, hall, hB⟩ := hrel
    have HAl := Hid.mk' hall
    have HB := Hid.mk' hB
    clear hall hB
    obtain ⟨c0, c1⟩ := HB.out.cells
    by_cases hlt : k < l.length ∧ k < 100
    · obtain ⟨hlt, h100⟩ := hlt
      obtain ⟨bb, oo, rfl, hcs⟩ := (HI.out.stay HB.out.below).lit (by rw [pairV_length]; omega)
      have hc0 := hcs _ _ (pairV_at l k hlt).1
      have hc1 : wr.cell? ⟨bb, oo + k * 2 + 1, none⟩ = some (.string l[k].2) := by
        have := hcs _ _ (pairV_at l k hlt).2
        rwa [← Nat.add_assoc] at this
      clear hcs
      have hlt' : (k : Int) < l.length := by omega
      have h100' : (k : Int) < 100 := by omega
      have hz := HZ.out l[k] (List.getElem_mem hlt)
      have HT : Hid (l.take (k + 1) = l.take k ++ [l[k]]) := List.take_succ_eq_append_getElem hlt
      generalize l[k] = p at *
      have e1 : IntKind.i64.wrap ((p.1.size : Int) + p.2.size) = (p.1.size : Int) + p.2.size := wrap_id (by omega) (by omega)
      have e2 : IntKind.i64.wrap ((x : Int) + ((p.1.size : Int) + p.2.size)) = (x : Int) + ((p.1.size : Int) + p.2.size) := wrap_id (by omega) (by omega)
      go_wp2
      go_quiet (fail)
      go_wp2
      go_roundw
      case rel =>
        refine ⟨k + 1, x + (p.1.size + p.2.size), by omega, by omega, by go_num, by go_num, by omega, by omega, fun r hr => ?_, HB.out.drewN nq⟩
        rw [HT.out, List.mem_append] at hr
        rcases hr with hr | hr
        · have := HAl.out r hr; omega
        · rw [List.mem_singleton] at hr; subst hr; omega
      case measure => simp [intOf]; omega
    · by_cases hkl : k < l.length
      · have h100 : k = 100 := by omega
        subst h100
        have hkl' : (100 : Int) < l.length := by omega
        have t50 : decide ((l.length : Int) > 50) = true := by rw [decide_eq_true_eq]; omega
        go_wp2
        go_ret
        exact ⟨true, rfl, (fun h => by cases h), HB.out.below⟩
      · obtain rfl : k = l.length := by omega
        by_cases h50 : 50 < l.length
        · have t50 : decide ((l.length : Int) > 50) = true := by rw [decide_eq_true_eq]; omega
          go_wp2
          go_ret
          exact ⟨true, rfl, (fun h => by cases h), HB.out.below⟩
        · have t50 : decide ((l.length : Int) > 50) = false := by rw [decide_eq_false_iff_not]; omega
          by_cases h2 : 2000 < x
          · have t2 : decide ((x : Int) > 2000) = true := by rw [decide_eq_true_eq]; omega
            go_wp2
            go_ret
            exact ⟨true, rfl, (fun h => by cases h), HB.out.below⟩
          · have t2 : decide ((x : Int) > 2000) = false := by rw [decide_eq_false_iff_not]; omega
            go_wp2
            go_ret
            refine ⟨false, rfl, fun _ => ⟨by omega, by omega, fun p hp => ?_⟩, HB.out.below⟩
            have := HAl.out p (by rw [List.take_length]; exact hp)
            omega
end Go.Proofs.Ytohddkniphcecab

/- ParamsBack, walked. -/
namespace Go.Proofs.Ytohddkniphcecab
open Go.RowKit

theorem told_eq {wd : ByteArray} {l : List (ByteArray × ByteArray)} {m : Nat ⊕ (List UInt8 × List Pm.Par)} (h : m = .inr (wd.data.toList, parL l)) : medW m = wd ∧ medP m = l ∧ medC m = 0 := by
  subst h
  exact ⟨rfl, (unL_of rfl).symm, rfl⟩
/-- what Parse answers of a value's text -/
theorem parse_back {tx wd : ByteArray} {l : List (ByteArray × ByteArray)} (hs : tx.size ≤ 100000) (h : Pm.media tx.data.toList = .inr (wd.data.toList, parL l)) : Reads 7 tx wd l 0 := by
  have := reads_of (fun W => parseP_any tx W hs)
  obtain ⟨e1, e2, e3⟩ := told_eq h
  rw [e1, e2, e3] at this
  exact this

set_option maxRecDepth 100000 in
set_option maxHeartbeats 3200000 in
/-- the second half: a text that is a value -/
theorem back_two (s : ByteArray) (hs : s.size ≤ 2000) : ∃ (wo : ByteArray) (ps : List (ByteArray × ByteArray)) (c : Nat), Reads 7 s wo ps c ∧ ps.length ≤ 1000000 ∧
    ((c ≠ 0 ∧ wo = ⟨#[]⟩ ∧ ps = []) ∨ (c = 0 ∧ ∃ tx : ByteArray, Writes 9 wo ps tx 0 ∧ Reads 7 tx wo ps 0)) := by
  obtain ⟨wo, ps, c, hR, hc⟩ := parse_told s (by omega)
  refine ⟨wo, ps, c, hR, ?_, ?_⟩
  · rcases hc with ⟨_, _, rfl⟩ | ⟨_, hm⟩
    · simp
    · have := (parse_small hs hm).1; omega
  · rcases hc with hc | ⟨hc, hm⟩
    · exact Or.inl hc
    · obtain ⟨h1, h2, h3, hf⟩ := parse_small hs hm
      obtain ⟨tx, d, hW, hd⟩ := text_told wo ps (by omega) h2 h3
      rcases hd with ⟨_, hn⟩ | ⟨rfl, hz, hm2⟩
      · exact absurd hf hn
      · exact Or.inr ⟨hc, tx, hW, parse_back hz hm2⟩

set_option maxRecDepth 100000 in
set_option maxHeartbeats 3200000 in
theorem paramsBack_any (s wd : ByteArray) (l : List (ByteArray × ByteArray)) (al : Option Addr) (cap : Nat) (w : World) (hl : IsV w al cap l.length (pairV l)) (hwz : wd.size ≤ 140737488355328) (hz : ∀ p ∈ l, p.1.size ≤ 140737488355328 ∧ p.2.size ≤ 140737488355328) :
    Calls Try.prog 4 #[.agg #[.string wd, .slice al l.length cap], .string s] w fun e w' => e = .returned (.bool true) ∧ Below w.heap.size w w' := by
  have HL := Hid.mk' hl
  have HGr := Hid.mk' (fun (W : World) (hW : IsV W al cap l.length (pairV l)) => greatMedia_any wd l al cap l.length W hW rfl hwz hz)
  clear hl hz hwz
  go_enter Try.func4, Try.ntmps4
  go_wp2_with fail
  refine (paramsBegun_any _).mono ?_
  rintro e w1 ⟨rfl, hb1⟩
  have X1 := Hid.mk' ((BoxM.start w wd al l.length cap).keep hb1)
  clear hb1
  by_cases h1 : 2000 < s.size
  · have t1 : decide ((s.size : Int) > 2000) = true := by rw [decide_eq_true_eq]; omega
    go_wp2
    go_ret
    exact ⟨rfl, X1.out.below⟩
  have t1 : decide ((s.size : Int) > 2000) = false := by rw [decide_eq_false_iff_not]; omega
  obtain ⟨c0, c1⟩ := X1.out.cells
  go_wp2_with fail
  refine (HGr.out _ (HL.out.stay X1.out.below)).mono ?_
  rintro e w2 ⟨b, rfl, hsm, hb2⟩
  have X2 := Hid.mk' (X1.out.keep hb2)
  clear hb2 X1 HGr c0 c1
  cases b
  case true =>
    go_wp2
    go_ret
    exact ⟨rfl, X2.out.below⟩
  obtain ⟨h50, hwz, hpz⟩ := hsm rfl
  clear hsm
  obtain ⟨tx, tc, hW, hback⟩ := text_told wd l (by omega) hwz hpz
  obtain ⟨wo, ps, mc, hR, hpl, htwo⟩ := back_two s (by omega)
  have HTx := Hid.mk' hW
  have HPr := Hid.mk' hR
  have HPl := Hid.mk' hpl
  have HTwo := Hid.mk' htwo
  have H50 := Hid.mk' h50
  clear hW hR hpl htwo hwz hpz h50
  obtain ⟨c0, c1⟩ := X2.out.cells
  go_wp2_with fail
  refine (HTx.out _ _ _ (HL.out.stay X2.out.below)).mono ?_
  rintro e w3 ⟨rfl, hb3⟩
  have X3 := Hid.mk' (X2.out.keep hb3)
  clear hb3 X2 c0 c1 HTx
  go_upto_if 30 with fail
  go_cut [4] (fun _ wc => Below w.heap.size w wc)
  case first =>
    rcases hback with ⟨hne, _⟩ | ⟨rfl, htz, hmt⟩
    · have t0 : ((tc : Int) == 0) = false := by rw [beq_eq_false_iff_ne]; omega
      go_wp2
      go_meet
      exact X3.out.below
    · have HPb := Hid.mk' (parse_back htz hmt)
      clear htz hmt
      go_wp2_with fail
      refine (HPb.out _).mono ?_
      rintro e w4 ⟨ao1, cap1, rfl, ho1, hb4⟩
      have A4 := Hid.mk' (BoxM.start w4 wd ao1 l.length cap1)
      have O4 := Hid.mk' (ho1.isV.stay A4.out.below)
      have X4 := Hid.mk' ((X3.out.keep hb4).keep A4.out.below)
      clear hb4 ho1 X3 HPb
      obtain ⟨c0, c1⟩ := X4.out.cells
      obtain ⟨a0, a1⟩ := A4.out.cells
      go_wp2_with fail
      refine (same_yes wd l al ao1 cap cap1 _ (HL.out.stay X4.out.below) O4.out (by have := H50.out; omega)).mono ?_
      rintro e w5 ⟨rfl, hb5⟩
      have Y5 := Hid.mk' (X4.out.keep hb5).below
      clear hb5 A4 O4 X4 c0 c1 a0 a1
      go_wp2
      go_meet
      exact Y5.out
  case rest =>
    clear hback X3
    have Y := Hid.mk' hcut
    clear hcut
    go_wp2_with fail
    refine (HPr.out _).mono ?_
    rintro e w6 ⟨ao2, cap2, rfl, ho2, hb6⟩
    have A6 := Hid.mk' (BoxM.start w6 wo ao2 ps.length cap2)
    have O6 := Hid.mk' (ho2.isV.stay A6.out.below)
    have Y6 := Hid.mk' (then_ (then_ Y.out hb6) A6.out.below)
    clear hb6 ho2 Y HPr
    obtain ⟨a0, a1⟩ := A6.out.cells
    rcases HTwo.out with ⟨hne, rfl, rfl⟩ | ⟨rfl, ty, hW2, hR2⟩
    · have t0 : ((mc : Int) != 0) = true := by rw [bne_iff_ne]; omega
      clear HTwo
      go_wp2_with fail
      refine (same_yes ⟨#[]⟩ [] ao2 none cap2 0 _ O6.out (IsV.nil _) (by simp)).mono ?_
      rintro e w7 ⟨rfl, hb7⟩
      have Y7 := Hid.mk' (then_ Y6.out hb7)
      clear hb7
      go_wp2
      go_ret
      exact ⟨rfl, Y7.out⟩
    · have HT2 := Hid.mk' hW2
      have HR2 := Hid.mk' hR2
      clear hW2 hR2 HTwo
      go_wp2_with fail
      refine (HT2.out _ _ _ O6.out).mono ?_
      rintro e w7 ⟨rfl, hb7⟩
      have A7 := Hid.mk' (A6.out.keep hb7)
      have O7 := Hid.mk' (O6.out.stay hb7)
      have Y7 := Hid.mk' (then_ Y6.out hb7)
      clear hb7 A6 O6 Y6 HT2 a0 a1
      go_wp2_with fail
      refine (HR2.out _).mono ?_
      rintro e w8 ⟨ao3, cap3, rfl, ho3, hb8⟩
      have B8 := Hid.mk' (BoxM.start w8 wo ao3 ps.length cap3)
      have P8 := Hid.mk' (ho3.isV.stay B8.out.below)
      have A8 := Hid.mk' ((A7.out.keep hb8).keep B8.out.below)
      have O8 := Hid.mk' ((O7.out.stay hb8).stay B8.out.below)
      have Y8 := Hid.mk' (then_ (then_ Y7.out hb8) B8.out.below)
      clear hb8 ho3 A7 O7 Y7 HR2
      obtain ⟨a0, a1⟩ := A8.out.cells
      obtain ⟨b0, b1⟩ := B8.out.cells
      go_wp2_with fail
      refine (same_yes wo ps ao2 ao3 cap2 cap3 _ O8.out P8.out HPl.out).mono ?_
      rintro e w9 ⟨rfl, hb9⟩
      have Y9 := Hid.mk' (then_ Y8.out hb9)
      clear hb9
      go_wp2
      go_ret
      exact ⟨rfl, Y9.out⟩
end Go.Proofs.Ytohddkniphcecab

/- What every row of this program wants. -/
namespace Go.Proofs.Ytohddkniphcecab
open Go.ChangeShapes Go.WideShapes Go.ChangeAt Go.RowKit
theorem laid_out : laidOutB Try.prog = true := by kernel_rfl
end Go.Proofs.Ytohddkniphcecab
