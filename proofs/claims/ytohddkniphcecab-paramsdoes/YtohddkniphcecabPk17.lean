/- Small texts, one behind the other: LwGreatM, PmLawA, RowKit0, RowKitF. -/
import Derived.Test.YtohddkniphcecabPk14
import Derived.Test.YtohddkniphcecabPk16
import Derived.Test.YtohddkniphcecabRfMedia
import Derived.Test.YtohddkniphcecabRfMText
import Derived.HandedShaped
import Derived.Test.YtohddkniphcecabProg
import Derived.ProofKit
import Derived.OpenShut
import Derived.Test.YtohddkniphcecabPk2
import Derived.Deep.Strs
/- The statements' own: greatMedia, walked: if it says no, all is small. -/
namespace Go.Proofs.Ytohddkniphcecab
open Go.RowKit

/-- a value that is small -/
def SmallM (wd : ByteArray) (l : List (ByteArray × ByteArray)) : Prop := l.length ≤ 50 ∧ wd.size ≤ 2000 ∧ ∀ p ∈ l, p.1.size ≤ 2000 ∧ p.2.size ≤ 2000

set_option maxHeartbeats 1600000 in
theorem greatMedia_any (wd : ByteArray) (l : List (ByteArray × ByteArray)) (ao : Option Addr) (cap n : Nat) (w : World) (hl : IsV w ao cap n (pairV l)) (hn : l.length = n) (hwz : wd.size ≤ 140737488355328) (hz : ∀ p ∈ l, p.1.size ≤ 140737488355328 ∧ p.2.size ≤ 140737488355328) :
    Calls Try.prog 6 #[.agg #[.string wd, .slice ao n cap]] w fun e w' => ∃ b : Bool, e = .returned (.bool b) ∧ (b = false → SmallM wd l) ∧ Below w.heap.size w w' := by
  subst hn
  have HI := Hid.mk' hl
  have HZ := Hid.mk' hz
  have HB0 := Hid.mk' (BoxM.start w wd ao l.length cap)
  clear hl hz
  go_enter Try.func6, Try.ntmps6
  go_wp2
  go_loopw [3, 4] (fun s t wr => ∃ (k : Nat) (x : Nat), k ≤ l.length ∧ k ≤ 100 ∧ t = .int .i64 k ∧ s = .int .i64 x ∧ x ≤ 140737488355328 + k * 281474976710656 ∧ wd.size ≤ x ∧ (∀ p ∈ l.take k, p.1.size + p.2.size ≤ x) ∧ BoxM w wd ao l.length cap wr) (fun _ t _ => 100 - (intOf t).toNat)
  case atStart => exact ⟨0, wd.size, Nat.zero_le _, by omega, rfl, rfl, by omega, Nat.le_refl _, fun p hp => by simp at hp, HB0.out⟩
  case round =>
    clear HB0
    obtain ⟨k, x, hk, hk1, rfl, rfl, hx, hxw, hall, hB⟩ := hrel
    have HAl := Hid.mk' hall
    have HB := Hid.mk' hB
    clear hall hB
    obtain ⟨c0, c1⟩ := HB.out.cells
    by_cases hlt : k < l.length ∧ k < 100
    · obtain ⟨hlt, h100⟩ := hlt
      obtain ⟨bb, oo, rfl, hcs⟩ := (HI.out.stay HB.out.below).lit (by rw [pairV_length]; omega)
      have hc0 := hcs _ _ (pairV_at l k hlt).1
      have hc1 : wr.cell? ⟨bb, oo + k * 2 + 1, none⟩ = some (.string l[k].2) := by
        have := hcs _ _ (pairV_at l k hlt).2
        rwa [← Nat.add_assoc] at this
      clear hcs
      have hlt' : (k : Int) < l.length := by omega
      have h100' : (k : Int) < 100 := by omega
      have hz := HZ.out l[k] (List.getElem_mem hlt)
      have HT : Hid (l.take (k + 1) = l.take k ++ [l[k]]) := List.take_succ_eq_append_getElem hlt
      generalize l[k] = p at *
      have e1 : IntKind.i64.wrap ((p.1.size : Int) + p.2.size) = (p.1.size : Int) + p.2.size := wrap_id (by omega) (by omega)
      have e2 : IntKind.i64.wrap ((x : Int) + ((p.1.size : Int) + p.2.size)) = (x : Int) + ((p.1.size : Int) + p.2.size) := wrap_id (by omega) (by omega)
      go_wp2
      go_quiet (fail)
      go_wp2
      go_roundw
      case rel =>
        refine ⟨k + 1, x + (p.1.size + p.2.size), by omega, by omega, by go_num, by go_num, by omega, by omega, fun r hr => ?_, HB.out.drewN nq⟩
        rw [HT.out, List.mem_append] at hr
        rcases hr with hr | hr
        · have := HAl.out r hr; omega
        · rw [List.mem_singleton] at hr; subst hr; omega
      case measure => simp [intOf]; omega
    · by_cases hkl : k < l.length
      · have h100 : k = 100 := by omega
        subst h100
        have hkl' : (100 : Int) < l.length := by omega
        have t50 : decide ((l.length : Int) > 50) = true := by rw [decide_eq_true_eq]; omega
        go_wp2
        go_ret
        exact ⟨true, rfl, (fun h => by cases h), HB.out.below⟩
      · obtain rfl : k = l.length := by omega
        by_cases h50 : 50 < l.length
        · have t50 : decide ((l.length : Int) > 50) = true := by rw [decide_eq_true_eq]; omega
          go_wp2
          go_ret
          exact ⟨true, rfl, (fun h => by cases h), HB.out.below⟩
        · have t50 : decide ((l.length : Int) > 50) = false := by rw [decide_eq_false_iff_not]; omega
          by_cases h2 : 2000 < x
          · have t2 : decide ((x : Int) > 2000) = true := by rw [decide_eq_true_eq]; omega
            go_wp2
            go_ret
            exact ⟨true, rfl, (fun h => by cases h), HB.out.below⟩
          · have t2 : decide ((x : Int) > 2000) = false := by rw [decide_eq_false_iff_not]; omega
            go_wp2
            go_ret
            refine ⟨false, rfl, fun _ => ⟨by omega, by omega, fun p hp => ?_⟩, HB.out.below⟩
            have := HAl.out p (by rw [List.take_length]; exact hp)
            omega
end Go.Proofs.Ytohddkniphcecab

/- ParamsDoes, walked. -/
namespace Go.Proofs.Ytohddkniphcecab
open Go.RowKit

set_option maxRecDepth 100000 in
set_option maxHeartbeats 3200000 in
theorem paramsDoes_any (s wd name : ByteArray) (l : List (ByteArray × ByteArray)) (al : Option Addr) (cap : Nat) (w : World) (hl : IsV w al cap l.length (pairV l)) (hwz : wd.size ≤ 140737488355328) (hz : ∀ p ∈ l, p.1.size ≤ 140737488355328 ∧ p.2.size ≤ 140737488355328) :
    Calls Try.prog 3 #[.string s, .agg #[.string wd, .slice al l.length cap], .string name] w fun e w' => e = .returned (.bool true) ∧ Below w.heap.size w w' := by
  have HL := Hid.mk' hl
  have HGr := Hid.mk' (fun (W : World) (hW : IsV W al cap l.length (pairV l)) => greatMedia_any wd l al cap l.length W hW rfl hwz hz)
  clear hl hz hwz
  go_enter Try.func3, Try.ntmps3
  go_wp2_with fail
  refine (paramsBegun_any _).mono ?_
  rintro e w1 ⟨rfl, hb1⟩
  have X1 := Hid.mk' ((BoxM.start w wd al l.length cap).keep hb1)
  clear hb1
  by_cases h1 : 2000 < s.size
  · have t1 : decide ((s.size : Int) > 2000) = true := by rw [decide_eq_true_eq]; omega
    go_wp2
    go_ret
    exact ⟨rfl, X1.out.below⟩
  have t1 : decide ((s.size : Int) > 2000) = false := by rw [decide_eq_false_iff_not]; omega
  obtain ⟨c0, c1⟩ := X1.out.cells
  go_wp2_with fail
  refine (HGr.out _ (HL.out.stay X1.out.below)).mono ?_
  rintro e w2 ⟨b, rfl, hsm, hb2⟩
  have X2 := Hid.mk' (X1.out.keep hb2)
  clear hb2 X1 HGr c0 c1
  cases b
  case true =>
    go_wp2
    go_ret
    exact ⟨rfl, X2.out.below⟩
  obtain ⟨h50, hwz, hpz⟩ := hsm rfl
  clear hsm
  have HPr := Hid.mk' (reads_of (fun W => parseP_any s W (by omega)))
  have HMo := Hid.mk' (reads_of (fun W => mediaOf_any s W (by omega)))
  have HTx := Hid.mk' (writes_of (fun W ao cap hW => textP_any wd l ao cap l.length W hW rfl (by omega) hwz hpz))
  have HMt := Hid.mk' (writes_of (fun W ao cap hW => mediaText_any wd l ao cap l.length W hW rfl (by omega) hwz hpz))
  have HGe := Hid.mk' (fun (W : World) (hW : IsV W al cap l.length (pairV l)) => getP_any wd l name al cap l.length W hW rfl (by omega) (fun p hp => by have := (hpz p hp).2; omega))
  have HPo := Hid.mk' (fun (W : World) (hW : IsV W al cap l.length (pairV l)) => paramOf_any wd l name al cap l.length W hW rfl (by omega))
  have hpl : (medP (Pm.media s.data.toList)).length ≤ 1000000 := by
    cases hm : Pm.media s.data.toList with
    | inl c => show 0 ≤ 1000000; omega
    | inr x =>
      have := (Pm.media_fine (wd := x.1) (ps := x.2) hm).few
      show (unL x.2).length ≤ 1000000
      unfold unL
      rw [List.length_map]; omega
  have HPl := Hid.mk' hpl
  clear hpl hwz hpz h50
  generalize medW (Pm.media s.data.toList) = wo at *
  generalize medP (Pm.media s.data.toList) = ps at *
  generalize medC (Pm.media s.data.toList) = mc at *
  generalize txW (Pm.text wd.data.toList (parL l)) = tx at *
  generalize txC (Pm.text wd.data.toList (parL l)) = tc at *
  generalize (Pm_get name l).getD ⟨#[]⟩ = gv at *
  generalize (Pm_get name l).isSome = gs at *
  go_wp2_with fail
  refine (HPr.out _).mono ?_
  rintro e w3 ⟨ao1, cap1, rfl, ho1, hb3⟩
  have A3 := Hid.mk' (BoxM.start w3 wo ao1 ps.length cap1)
  have O3 := Hid.mk' (ho1.isV.stay A3.out.below)
  have X3 := Hid.mk' ((X2.out.keep hb3).keep A3.out.below)
  clear hb3 ho1 X2 HPr
  go_wp2_with fail
  refine (HMo.out _).mono ?_
  rintro e w4 ⟨ao2, cap2, rfl, ho2, hb4⟩
  have B4 := Hid.mk' (BoxM.start w4 wo ao2 ps.length cap2)
  have A4 := Hid.mk' ((A3.out.keep hb4).keep B4.out.below)
  have O4 := Hid.mk' ((O3.out.stay hb4).stay B4.out.below)
  have P4 := Hid.mk' (ho2.isV.stay B4.out.below)
  have X4 := Hid.mk' ((X3.out.keep hb4).keep B4.out.below)
  clear hb4 ho2 X3 A3 O3 HMo
  obtain ⟨c0, c1⟩ := X4.out.cells
  go_wp2_with fail
  refine (HTx.out _ _ _ (HL.out.stay X4.out.below)).mono ?_
  rintro e w5 ⟨rfl, hb5⟩
  have A5 := Hid.mk' (A4.out.keep hb5)
  have B5 := Hid.mk' (B4.out.keep hb5)
  have O5 := Hid.mk' (O4.out.stay hb5)
  have P5 := Hid.mk' (P4.out.stay hb5)
  have X5 := Hid.mk' (X4.out.keep hb5)
  clear hb5 A4 B4 O4 P4 X4 HTx c0 c1
  obtain ⟨c0, c1⟩ := X5.out.cells
  go_wp2_with fail
  refine (HMt.out _ _ _ (HL.out.stay X5.out.below)).mono ?_
  rintro e w6 ⟨rfl, hb6⟩
  have A6 := Hid.mk' (A5.out.keep hb6)
  have B6 := Hid.mk' (B5.out.keep hb6)
  have O6 := Hid.mk' (O5.out.stay hb6)
  have P6 := Hid.mk' (P5.out.stay hb6)
  have X6 := Hid.mk' (X5.out.keep hb6)
  clear hb6 A5 B5 O5 P5 X5 HMt c0 c1
  obtain ⟨c0, c1⟩ := X6.out.cells
  go_wp2_with fail
  refine (HGe.out _ (HL.out.stay X6.out.below)).mono ?_
  rintro e w7 ⟨rfl, hb7⟩
  have A7 := Hid.mk' (A6.out.keep hb7)
  have B7 := Hid.mk' (B6.out.keep hb7)
  have O7 := Hid.mk' (O6.out.stay hb7)
  have P7 := Hid.mk' (P6.out.stay hb7)
  have X7 := Hid.mk' (X6.out.keep hb7)
  clear hb7 A6 B6 O6 P6 X6 HGe c0 c1
  obtain ⟨c0, c1⟩ := X7.out.cells
  go_wp2_with fail
  refine (HPo.out _ (HL.out.stay X7.out.below)).mono ?_
  rintro e w8 ⟨rfl, hb8⟩
  have A8 := Hid.mk' (A7.out.keep hb8)
  have B8 := Hid.mk' (B7.out.keep hb8)
  have O8 := Hid.mk' (O7.out.stay hb8)
  have P8 := Hid.mk' (P7.out.stay hb8)
  have X8 := Hid.mk' (X7.out.keep hb8)
  clear hb8 A7 B7 O7 P7 X7 HPo c0 c1
  obtain ⟨a0, a1⟩ := A8.out.cells
  obtain ⟨b0, b1⟩ := B8.out.cells
  go_wp2_with fail
  refine (same_yes wo ps ao1 ao2 cap1 cap2 _ O8.out P8.out HPl.out).mono ?_
  rintro e w9 ⟨rfl, hb9⟩
  have Y9 := Hid.mk' (X8.out.keep hb9).below
  clear hb9 A8 B8 a0 a1 b0 b1
  go_wp2
  all_goals
    go_ret
    exact ⟨rfl, Y9.out⟩
end Go.Proofs.Ytohddkniphcecab

/- What every row of this program wants. -/
namespace Go.Proofs.Ytohddkniphcecab
open Go.ChangeShapes Go.WideShapes Go.ChangeAt Go.RowKit
theorem laid_out : laidOutB Try.prog = true := by kernel_rfl
end Go.Proofs.Ytohddkniphcecab

/- Texts, structs of two texts, and slices of such, as an argument is read: their elements, once, and no text longer than the form's own reach. -/
namespace Go.Proofs.Ytohddkniphcecab
open Go.ChangeShapes Go.WideShapes Go.ChangeAt Go.RowKit

/-- all that a reading holds is within the form's reach -/
def Light {H : Type} (P : Program) (t : TypeId) (d : DataW H) : Prop := ∀ x ∈ d.weights P t, x ≤ reachBytes
theorem light_first {H : Type} {P : Program} {t : TypeId} {ts : List TypeId} {d : DataW H} {ds : List (DataW H)} (h : ∀ x ∈ DataW.weightsEach P (t :: ts) (d :: ds), x ≤ reachBytes) : Light P t d ∧ ∀ x ∈ DataW.weightsEach P ts ds, x ≤ reachBytes := by
  rw [DataW.weightsEach] at h
  exact ⟨fun x hx => h x (List.mem_append_left _ hx), fun x hx => h x (List.mem_append_right _ hx)⟩
theorem light_all {H : Type} {P : Program} {ts : List TypeId} {ds : List (DataW H)} (h : (DataW.weightsEach P ts ds).all (· ≤ reachBytes) = true) : ∀ x ∈ DataW.weightsEach P ts ds, x ≤ reachBytes := fun x hx => by
  simpa using List.all_eq_true.1 h x hx
theorem light_mem {H : Type} {P : Program} {e : TypeId} {l : List (DataW H)} {d : DataW H} (hd : d ∈ l) : ∀ x ∈ d.weights P e, x ∈ DataW.weightsAll P e l := by
  induction l with
  | nil => cases hd
  | cons a t ih =>
    intro x hx
    rw [DataW.weightsAll]
    rcases List.mem_cons.1 hd with rfl | hd
    · exact List.mem_append_left _ hx
    · exact List.mem_append_right _ (ih hd x hx)
theorem light_elem {H : Type} {P : Program} {t e : TypeId} (ht : P.underlying t = some (.slice e)) {elems spare : List (DataW H)} (h : Light P t (.slice elems spare)) {d : DataW H} (hd : d ∈ elems) : Light P e d := by
  intro x hx
  refine h x ?_
  rw [DataW.weights, ht]
  exact List.mem_cons_of_mem _ (List.mem_append_left _ (light_mem hd x hx))
/-- a slice takes no more than the reach -/
theorem light_len {H : Type} {P : Program} {t e : TypeId} (ht : P.underlying t = some (.slice e)) {elems spare : List (DataW H)} (h : Light P t (.slice elems spare)) : (elems.length + spare.length) * P.bytesOf e ≤ reachBytes := by
  refine h _ ?_
  rw [DataW.weights, ht]
  exact List.mem_cons_self ..

section
variable {H : Type} {enc : TypeId × Value → H} {P : Program} {w : World} {base : Nat} {spare : Nat → Bool} {held : Bool}
/-- a text -/
theorem open_text {t : TypeId} {fuel : Nat} {cs : List Value} {d : DataW H} {p : List MemPlace} (ht : P.underlying t = some .string) (h : DataW.trod enc P w base spare held fuel t cs = some (d, p)) (hL : Light P t d) :
    ∃ s : ByteArray, cs = [.string s] ∧ s.size ≤ reachBytes := by
  obtain ⟨s, h1, h2, h3⟩ := DataW.trod_string ht h
  injection h2 with h2 _
  subst h2
  refine ⟨s, h1, ?_⟩
  have := hL s.data.toList.length (by rw [DataW.weights]; exact List.mem_cons_self ..)
  rwa [Array.length_toList] at this
/-- a struct of two texts -/
theorem open_pair {t s : TypeId} {f0 f1 : Field} {fuel : Nat} {cs : List Value} {d : DataW H} {p : List MemPlace} (ht : P.underlying t = some (.struct #[f0, f1])) (h0 : f0.type = s) (h1 : f1.type = s) (o0 : f0.offset = 0) (o1 : f1.offset = 1)
    (hs : P.underlying s = some .string) (hc : P.cellsOf s = 1) (hct : P.cellsOf t = 2) (h : DataW.trod enc P w base spare held fuel t cs = some (d, p)) (hL : Light P t d) :
    ∃ n v : ByteArray, cs = [.string n, .string v] ∧ n.size ≤ reachBytes ∧ v.size ≤ reachBytes := by
  obtain ⟨y0, y1, m, hx, hl, k0, k1⟩ := trod_struct2 ht h
  rw [h0, hc, o0] at k0
  rw [h1, hc, o1] at k1
  rw [hct] at hl
  injection hx with hd _
  subst hd
  have hw : ∀ x ∈ y0.1.weights P s ++ y1.1.weights P s, x ≤ reachBytes := by
    intro x hx
    refine hL x ?_
    rw [DataW.weights, ht]
    simp only [List.map_cons, List.map_nil, DataW.weightsEach, h0, h1, List.append_nil]
    exact hx
  obtain ⟨n, e0, z0⟩ := open_text (d := y0.1) (p := y0.2) hs k0 (fun x hx => hw x (List.mem_append_left _ hx))
  obtain ⟨v, e1, z1⟩ := open_text (d := y1.1) (p := y1.2) hs k1 (fun x hx => hw x (List.mem_append_right _ hx))
  match cs, hl with
  | [a, b], _ =>
    simp at e0 e1
    subst e0; subst e1
    exact ⟨n, v, rfl, z0, z1⟩
/-- a slice of structs of two texts -/
theorem open_pairs {t u s : TypeId} {f0 f1 : Field} {fuel : Nat} {a0 : Option Addr} {len cap : Nat} {d : DataW H} {p : List MemPlace} (hu : P.underlying u = some (.slice t)) (ht : P.underlying t = some (.struct #[f0, f1])) (h0 : f0.type = s) (h1 : f1.type = s) (o0 : f0.offset = 0) (o1 : f1.offset = 1)
    (hs : P.underlying s = some .string) (hc : P.cellsOf s = 1) (hct : P.cellsOf t = 2) (h : DataW.trod enc P w base (fun _ => true) held fuel u [.slice a0 len cap] = some (d, p)) (hL : Light P u d) :
    ∃ l : List (ByteArray × ByteArray), l.length = len ∧ IsV w a0 cap l.length (pairV l) ∧ ∀ q ∈ l, q.1.size ≤ reachBytes ∧ q.2.size ≤ reachBytes := by
  rcases Go.Deep.open_slice hu h with ⟨hcs, _⟩ | ⟨a, len', cap', m, n, D, Pl, hcs, _, hl, _, hm, hx, hcell⟩
  · simp at hcs
    obtain ⟨rfl, rfl, rfl⟩ := hcs
    exact ⟨[], rfl, IsV.nil w, fun s hs => by cases hs⟩
  · simp at hcs
    obtain ⟨rfl, rfl, rfl⟩ := hcs
    simp only [if_true] at hm
    subst hm
    injection hx with hd _
    subst hd
    rw [hct] at hcell
    have each : ∀ i, i < len → ∃ q : ByteArray × ByteArray, w.cell? (a.add (i * 2)) = some (.string q.1) ∧ w.cell? (a.add (i * 2 + 1)) = some (.string q.2) ∧ q.1.size ≤ reachBytes ∧ q.2.size ≤ reachBytes := by
      intro i hi
      obtain ⟨cs', k1, k2⟩ := hcell i (by omega)
      obtain ⟨x, y, rfl, zx, zy⟩ := open_pair ht h0 h1 o0 o1 hs hc hct k2 (light_elem hu hL (List.mem_map.2 ⟨i, List.mem_range.2 hi, rfl⟩))
      obtain ⟨_, _, k3⟩ := World.cells?_some k1
      have k30 := k3 0 (by omega)
      have k31 := k3 1 (by omega)
      rw [Addr.add_add] at k30 k31
      exact ⟨(x, y), by simpa using k30, by simpa using k31, zx, zy⟩
    obtain ⟨F, hF⟩ := Go.Deep.choose_lt each
    have hlen : ((List.range len).map F).length = len := by simp
    refine ⟨(List.range len).map F, hlen, ⟨by omega, (fun h => by cases h), fun j u hj => ⟨a, rfl, ?_⟩⟩, fun q hq => ?_⟩
    · have hlt : j < len * 2 := by
        have := (List.getElem?_eq_some_iff.1 hj).1
        rwa [pairV_length, hlen] at this
      have hk : j / 2 < ((List.range len).map F).length := by rw [hlen]; omega
      have hp := pairV_at _ (j / 2) hk
      have hf := hF (j / 2) (by omega)
      have hg : ((List.range len).map F)[j / 2] = F (j / 2) := by simp
      rw [hg] at hp
      by_cases e : j % 2 = 0
      · have ej : j / 2 * 2 = j := by omega
        rw [ej] at hp hf
        rw [hp.1] at hj
        injection hj with hj; subst hj
        exact hf.1
      · have ej : j / 2 * 2 + 1 = j := by omega
        rw [ej] at hp hf
        rw [hp.2] at hj
        injection hj with hj; subst hj
        exact hf.2.1
    · obtain ⟨j, hj, rfl⟩ := List.mem_map.1 hq
      have := hF j (List.mem_range.1 hj)
      exact ⟨this.2.2.1, this.2.2.2⟩
end
end Go.Proofs.Ytohddkniphcecab
