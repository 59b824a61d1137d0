/- Small texts, one behind the other: RfSame, CkLawB, RowKit0, RowKitF. -/
import Derived.Test.YtnacbfeijakipabDoorPk2
import Derived.Test.YtnacbfeijakipabDoorPk1
import Derived.Test.YtnacbfeijakipabDoorProg
import Derived.Test.YtnacbfeijakipabDoorCkBegun
import Derived.ProofKit
import Derived.OpenShut
import Derived.Deep.Strs
import Derived.HandedShaped
/- The document's own answer, walked: SameBytes. -/
namespace Go.Proofs.YtnacbfeijakipabDoor
open Go.RowKit

theorem same_text (a b : List UInt8) : ((⟨a.toArray⟩ : ByteArray).toList == (⟨b.toArray⟩ : ByteArray).toList) = decide (a = b) := by
  rw [Lib.toList_data, Lib.toList_data, Bool.eq_iff_iff]; simp

theorem sameBytes_any (w : World) (ao1 ao2 : Option Addr) (cap1 cap2 n1 n2 : Nat) (l1 l2 : List UInt8) (hn1 : l1.length = n1) (hn2 : l2.length = n2) (h1 : IsB w ao1 cap1 l1) (h2 : IsB w ao2 cap2 l2) :
    Calls Tryd.prog 18 #[.slice ao1 n1 cap1, .slice ao2 n2 cap2] w fun e w' => e = .returned (.bool (decide (l1 = l2))) ∧ w' = w := by
  subst hn1; subst hn2
  have q1 := h1.str (P := Tryd.prog) 36 9 5 Tryd.underlying36 Tryd.underlying5 Tryd.underlying9
  have q2 := h2.str (P := Tryd.prog) 36 9 5 Tryd.underlying36 Tryd.underlying5 Tryd.underlying9
  have HS := Hid.mk' (same_text l1 l2)
  generalize (⟨l1.toArray⟩ : ByteArray) = s1 at q1 HS
  generalize (⟨l2.toArray⟩ : ByteArray) = s2 at q2 HS
  clear h1 h2
  go_enter Tryd.func18, Tryd.ntmps18
  go_wp2
  go_ret
  exact ⟨ret_bool HS.out, rfl⟩
end Go.Proofs.YtnacbfeijakipabDoor

/- ChunksBack, walked: what was written in chunks is read as all its bytes. -/
namespace Go.Proofs.YtnacbfeijakipabDoor
open Go.RowKit

theorem chunksBack_great (al : Option Addr) (m capl : Nat) (w : World) (hT : TzAt w) (h : 100 < m) :
    Calls Tryd.prog 6 #[.slice al m capl] w fun e w' => e = .returned (.bool true) ∧ Below w.heap.size w w' := by
  have HBg := Hid.mk' (chunksBegun_any w hT)
  clear hT
  have t1 : decide ((m : Int) > 100) = true := decide_eq_true (by omega)
  go_enter Tryd.func6, Tryd.ntmps6
  go_wp2_with fail
  refine HBg.out.mono ?_
  rintro e w1 ⟨rfl, hb1⟩
  go_wp2
  go_ret
  exact ⟨rfl, hb1⟩

/-- so many lists are joined -/
structure AllRel (w : World) (ls : List (List UInt8)) (i : Nat) (ao : Option Addr) (ca n : Nat) (wr : World) : Prop where
  own : OwnB wr w.heap.size 5 ao ca (ls.take i).flatten
  len : (ls.take i).flatten.length = n
  below : Below w.heap.size w wr
theorem join_at (ls : List (List UInt8)) (i : Nat) (hi : i < ls.length) : (ls.take (i + 1)).flatten = (ls.take i).flatten ++ ls[i] := by
  rw [List.take_succ_eq_append_getElem hi, List.flatten_append]; simp
theorem join_le (ls : List (List UInt8)) (i : Nat) : (ls.take i).flatten.length ≤ ls.flatten.length := by
  conv => rhs; rw [← List.take_append_drop i ls, List.flatten_append, List.length_append]
  omega

set_option maxRecDepth 100000 in
set_option maxHeartbeats 4000000 in
theorem chunksBack_main (ls : List (List UInt8)) (al : Option Addr) (capl : Nat) (w : World) (hl : IsL w al capl ls) (hT : TzAt w) (h100 : ls.length ≤ 100) (hbulk : ls.flatten.length ≤ 1048576) :
    Calls Tryd.prog 6 #[.slice al ls.length capl] w fun e w' => e = .returned (.bool true) ∧ Below w.heap.size w w' := by
  have t1 : decide ((ls.length : Int) > 100) = false := decide_eq_false (by omega)
  have HBg := Hid.mk' (chunksBegun_any w hT)
  have HT := Hid.mk' hT; have HL := Hid.mk' hl
  have hcapl := hl.1
  obtain ⟨i0, hi0, hz0, hz1, hz2⟩ := info_parts info_u8
  have Hi := Hid.mk' hi0; have Hz0 := Hid.mk' hz0; have Hz1 := Hid.mk' hz1; have Hz2 := Hid.mk' hz2
  clear hT hl hi0 hz0 hz1 hz2
  have hfl : ∃ fl, ls.flatten.length = fl := ⟨_, rfl⟩
  obtain ⟨fl, hfl⟩ := hfl
  rw [hfl] at hbulk
  have HFl := Hid.mk' hfl
  clear hfl
  go_enter Tryd.func6, Tryd.ntmps6
  go_wp2_with fail
  refine HBg.out.mono ?_
  rintro e w1 ⟨rfl, hb1⟩
  have B1 := Hid.mk' hb1
  have T1 := Hid.mk' (HT.out.stay hb1); have L1 := Hid.mk' (HL.out.stay hb1)
  clear HBg hb1 HT HL
  go_wp2
  go_loopw [3, 4] (fun va vi wr => ∃ (i : Nat) (ao : Option Addr) (ca n : Nat), i ≤ ls.length ∧ vi = .int .i64 i ∧ va = .slice ao n ca ∧ AllRel w1 ls i ao ca n wr) (fun _ vi _ => ls.length - (intOf vi).toNat)
  case atStart => exact ⟨0, none, 0, 0, Nat.zero_le _, rfl, rfl, ⟨OwnB.nil _ _ _, rfl, Below.refl _ _⟩⟩
  case round =>
    obtain ⟨i, ao, ca, n, hi, rfl, rfl, hR⟩ := hrel
    have HR := Hid.mk' hR
    have hn : n ≤ fl := by have := join_le ls i; rw [hR.len, HFl.out] at this; exact this
    clear hR
    by_cases hlt : i < ls.length
    · obtain ⟨bb, oo, rfl, _⟩ := L1.out.lit (by omega)
      obtain ⟨bo, bc, hbc, hat⟩ := L1.out.at_ i hlt
      have hc0 := (hat _ HR.out.below).1
      have IX := Hid.mk' (hat _ HR.out.below).2
      have hlt' : (i : Int) < ls.length := by omega
      have HS := Hid.mk' (join_at ls i hlt)
      have hnx : n + ls[i].length ≤ fl := by
        have h1 := join_le ls (i + 1)
        rw [HS.out, List.length_append, HR.out.len, HFl.out] at h1
        exact h1
      clear hat
      generalize ls[i] = x at *
      have HLen := Hid.mk' HR.out.len; have HO := Hid.mk' HR.out.own; have HBe := Hid.mk' HR.out.below
      generalize hpre : (ls.take i).flatten = pre at *
      clear hpre HR
      go_wp2_with (at_builtin; refine wpList_append_at rfl (.tmp 23) (.tmp 27) 36 rfl w1.heap.size 5 i0 Tryd.underlying36 Hi.out Hz0.out Hz1.out Hz2.out (l := pre) (l2 := x) rfl HLen.out HO.out rfl rfl IX.out (by omega) HBe.out.size ?_; intro ao3 ca3 w3 hO3 hG3 _; have HO3 := Hid.mk' hO3; have HG3 := Hid.mk' (HBe.out.trans (grown_base HO.out hG3 HBe.out.size)); clear hO3 hG3)
      go_roundw
      case rel => exact ⟨i + 1, ao3, ca3, n + x.length, by omega, by go_num, rfl, ⟨by rw [HS.out]; exact HO3.out, by rw [HS.out, List.length_append, HLen.out], HG3.out⟩⟩
      case measure => simp [intOf]; omega
    · obtain rfl : i = ls.length := by omega
      have hO := HR.out.own; have hLen := HR.out.len
      rw [List.take_length] at hO hLen
      have HO := Hid.mk' hO; have HBe := Hid.mk' HR.out.below
      have hfn : fl = n := HFl.out.symm.trans hLen
      have HLen := Hid.mk' hLen
      subst hfn
      clear hO hLen HR hn HFl
      by_cases hbig : 4000 < fl
      · have tb : decide ((fl : Int) > 4000) = true := decide_eq_true (by omega)
        go_wp2
        go_ret
        exact ⟨rfl, then_ B1.out HBe.out⟩
      · have tb : decide ((fl : Int) > 4000) = false := decide_eq_false (by omega)
        have hf4 : ls.flatten.length ≤ 4000 := by rw [HLen.out]; omega
        have HW := Hid.mk' (write_any _ al capl ls (L1.out.stay HBe.out) h100 (by omega) (T1.out.stay HBe.out))
        have HBk := Hid.mk' (Ck.back_at ls hf4)
        have HBo := Hid.mk' (Ck.back_body ls hf4)
        have htl : (Ck.text ls).length ≤ 6000 := by
          have := flat_le ls ls.length
          rw [List.take_length] at this
          unfold Ck.text
          rw [List.length_append]
          simp only [List.length_cons, List.length_nil]
          omega
        have HTk := Hid.mk' (Ck.take_at (Ck.text ls))
        unfold TextOut at HW
        clear hf4
        generalize Ck.text ls = b at *
        go_wp2_with fail
        refine HW.out.mono ?_
        rintro e w3 ⟨ao2, ca2, he, hO2, hB2⟩
        subst he
        have I2 := Hid.mk' hO2.isB; have B2 := Hid.mk' (then_ HBe.out hB2)
        have O2 := Hid.mk' (HO.out.isB.stay hB2)
        have HNw := Hid.mk' (newCk_in w3)
        have hcap := hO2.isB.1
        clear hO2 hB2 HW HO HBe
        go_wp2_with fail
        refine HNw.out.mono ?_
        rintro e w4 ⟨g, rfl, hC⟩
        have HC := Hid.mk' hC
        clear hC HNw
        go_wp2
        go_loopw [7, 8] (fun vg vi wr2 => ∃ (i : Nat) (ao : Option Addr) (ca : Nat), i ≤ b.length ∧ vi = .int .i64 i ∧ vg = .slice ao (Ck.outs Ck.start (b.take i)).length ca ∧ CkIn w3 g (Ck.fold Ck.start (b.take i)) ao ca (Ck.outs Ck.start (b.take i)) wr2) (fun _ vi _ => b.length - (intOf vi).toNat)
        case atStart => exact ⟨0, none, 0, Nat.zero_le _, rfl, rfl, HC.out⟩
        case round =>
          clear HC
          obtain ⟨i, ao4, ca4, hi, rfl, rfl, hK⟩ := hrel
          have HK := Hid.mk' hK
          clear hK
          by_cases hlt : i < b.length
          · obtain ⟨bb, oo, rfl, _⟩ := I2.out.lit (by omega)
            have hcell := ((I2.out.stay HK.out.below).cell i hlt)
            rw [Addr.add_lit] at hcell
            have hlt' : (i : Int) < b.length := by omega
            obtain ⟨hcd, hov⟩ := HBk.out i hlt
            obtain ⟨ht1, ht2⟩ := HTk.out i hlt
            have HF := Hid.mk' (HK.out.feed b[i])
            have hgl := Ck.outs_le (b.take i) Ck.start
            rw [List.length_take] at hgl
            have hxl := Ck.out_len (Ck.fold Ck.start (b.take i)) b[i]
            rw [hov, hcd] at HF
            have HT1 := Hid.mk' ht1; have HT2 := Hid.mk' ht2
            clear ht1 ht2 hov hcd HBk HTk
            generalize hxx : Ck.out (Ck.fold Ck.start (b.take i)) b[i] = x at *
            generalize b[i] = c at *
            generalize hgg : Ck.outs Ck.start (b.take i) = got at *
            have hgl' : got.length ≤ 6000 := by omega
            generalize hdl : decide (i + 1 = b.length) = dl at *
            have tl : ((i : Int) == (b.length : Int) - 1) = dl := by rw [← hdl, Bool.eq_iff_iff]; simp; omega
            clear hxx hgg hgl hdl
            cases dl
            · go_wp2_with fail
              refine HF.out.mono ?_
              rintro e w7 ⟨bo, bc, rfl, hI7, hK7⟩
              have K7 := Hid.mk' hK7; have I7 := Hid.mk' hI7; have S7 := Hid.mk' hK7.below.size
              clear hK7 hI7 HF HK hcell
              go_wp2_with (at_builtin; refine wpList_append_at rfl (.tmp 62) (.tmp 63) 36 rfl w3.heap.size 5 i0 Tryd.underlying36 Hi.out Hz0.out Hz1.out Hz2.out (l := got) (l2 := x) rfl rfl K7.out.own rfl rfl I7.out (by omega) S7.out ?_; intro ao8 ca8 w8 hO8 hG8 hA8; have K8 := Hid.mk' (K7.out.grow hO8 hG8 hA8); clear hO8 hG8 hA8)
              go_roundw
              case rel => exact ⟨i + 1, ao8, ca8, by omega, by go_num, by rw [HT2.out, List.length_append], by rw [HT1.out, HT2.out]; exact K8.out⟩
              case measure => simp [intOf]; omega
            · go_wp2_with fail
              refine HF.out.mono ?_
              rintro e w7 ⟨bo, bc, rfl, hI7, hK7⟩
              have K7 := Hid.mk' hK7; have I7 := Hid.mk' hI7; have S7 := Hid.mk' hK7.below.size
              clear hK7 hI7 HF HK hcell
              go_wp2_with (at_builtin; refine wpList_append_at rfl (.tmp 62) (.tmp 63) 36 rfl w3.heap.size 5 i0 Tryd.underlying36 Hi.out Hz0.out Hz1.out Hz2.out (l := got) (l2 := x) rfl rfl K7.out.own rfl rfl I7.out (by omega) S7.out ?_; intro ao8 ca8 w8 hO8 hG8 hA8; have K8 := Hid.mk' (K7.out.grow hO8 hG8 hA8); clear hO8 hG8 hA8)
              go_roundw
              case rel => exact ⟨i + 1, ao8, ca8, by omega, by go_num, by rw [HT2.out, List.length_append], by rw [HT1.out, HT2.out]; exact K8.out⟩
              case measure => simp [intOf]; omega
          · obtain rfl : i = b.length := by omega
            have hK := HK.out
            rw [List.take_length, HBo.out] at hK
            rw [List.take_length, HBo.out]
            have HSm := Hid.mk' (sameBytes_any _ ao4 ao ca4 ca ls.flatten.length fl ls.flatten ls.flatten rfl HLen.out hK.own.isB (O2.out.stay hK.below))
            rw [decide_eq_true rfl] at HSm
            have HBl := Hid.mk' hK.below
            clear hK HK
            generalize ls.flatten.length = fl2 at *
            go_wp2_with fail
            refine HSm.out.mono ?_
            rintro e w7 ⟨rfl, hw⟩
            subst hw
            go_wp2
            go_ret
            exact ⟨rfl, then_ B1.out (then_ B2.out HBl.out)⟩
end Go.Proofs.YtnacbfeijakipabDoor

/- What every row of this program wants. -/
namespace Go.Proofs.YtnacbfeijakipabDoor
open Go.ChangeShapes Go.WideShapes Go.ChangeAt Go.RowKit
theorem laid_out : laidOutB Tryd.prog = true := by kernel_rfl
end Go.Proofs.YtnacbfeijakipabDoor

/- Texts, structs of two texts, and slices of such, as an argument is read: their elements, once, and no text longer than the form's own reach. -/
namespace Go.Proofs.YtnacbfeijakipabDoor
open Go.ChangeShapes Go.WideShapes Go.ChangeAt Go.RowKit

/-- all that a reading holds is within the form's reach -/
def Light {H : Type} (P : Program) (t : TypeId) (d : DataW H) : Prop := ∀ x ∈ d.weights P t, x ≤ reachBytes
theorem light_first {H : Type} {P : Program} {t : TypeId} {ts : List TypeId} {d : DataW H} {ds : List (DataW H)} (h : ∀ x ∈ DataW.weightsEach P (t :: ts) (d :: ds), x ≤ reachBytes) : Light P t d ∧ ∀ x ∈ DataW.weightsEach P ts ds, x ≤ reachBytes := by
  rw [DataW.weightsEach] at h
  exact ⟨fun x hx => h x (List.mem_append_left _ hx), fun x hx => h x (List.mem_append_right _ hx)⟩
theorem light_all {H : Type} {P : Program} {ts : List TypeId} {ds : List (DataW H)} (h : (DataW.weightsEach P ts ds).all (· ≤ reachBytes) = true) : ∀ x ∈ DataW.weightsEach P ts ds, x ≤ reachBytes := fun x hx => by
  simpa using List.all_eq_true.1 h x hx
theorem light_mem {H : Type} {P : Program} {e : TypeId} {l : List (DataW H)} {d : DataW H} (hd : d ∈ l) : ∀ x ∈ d.weights P e, x ∈ DataW.weightsAll P e l := by
  induction l with
  | nil => cases hd
  | cons a t ih =>
    intro x hx
    rw [DataW.weightsAll]
    rcases List.mem_cons.1 hd with rfl | hd
    · exact List.mem_append_left _ hx
    · exact List.mem_append_right _ (ih hd x hx)
theorem light_elem {H : Type} {P : Program} {t e : TypeId} (ht : P.underlying t = some (.slice e)) {elems spare : List (DataW H)} (h : Light P t (.slice elems spare)) {d : DataW H} (hd : d ∈ elems) : Light P e d := by
  intro x hx
  refine h x ?_
  rw [DataW.weights, ht]
  exact List.mem_cons_of_mem _ (List.mem_append_left _ (light_mem hd x hx))
/-- a slice takes no more than the reach -/
theorem light_len {H : Type} {P : Program} {t e : TypeId} (ht : P.underlying t = some (.slice e)) {elems spare : List (DataW H)} (h : Light P t (.slice elems spare)) : (elems.length + spare.length) * P.bytesOf e ≤ reachBytes := by
  refine h _ ?_
  rw [DataW.weights, ht]
  exact List.mem_cons_self ..

section
variable {H : Type} {enc : TypeId × Value → H} {P : Program} {w : World} {base : Nat} {spare : Nat → Bool} {held : Bool}
/-- a text -/
theorem open_text {t : TypeId} {fuel : Nat} {cs : List Value} {d : DataW H} {p : List MemPlace} (ht : P.underlying t = some .string) (h : DataW.trod enc P w base spare held fuel t cs = some (d, p)) (hL : Light P t d) :
    ∃ s : ByteArray, cs = [.string s] ∧ s.size ≤ reachBytes := by
  obtain ⟨s, h1, h2, h3⟩ := DataW.trod_string ht h
  injection h2 with h2 _
  subst h2
  refine ⟨s, h1, ?_⟩
  have := hL s.data.toList.length (by rw [DataW.weights]; exact List.mem_cons_self ..)
  rwa [Array.length_toList] at this
/-- a struct of two texts -/
theorem open_pair {t s : TypeId} {f0 f1 : Field} {fuel : Nat} {cs : List Value} {d : DataW H} {p : List MemPlace} (ht : P.underlying t = some (.struct #[f0, f1])) (h0 : f0.type = s) (h1 : f1.type = s) (o0 : f0.offset = 0) (o1 : f1.offset = 1)
    (hs : P.underlying s = some .string) (hc : P.cellsOf s = 1) (hct : P.cellsOf t = 2) (h : DataW.trod enc P w base spare held fuel t cs = some (d, p)) (hL : Light P t d) :
    ∃ n v : ByteArray, cs = [.string n, .string v] ∧ n.size ≤ reachBytes ∧ v.size ≤ reachBytes := by
  obtain ⟨y0, y1, m, hx, hl, k0, k1⟩ := trod_struct2 ht h
  rw [h0, hc, o0] at k0
  rw [h1, hc, o1] at k1
  rw [hct] at hl
  injection hx with hd _
  subst hd
  have hw : ∀ x ∈ y0.1.weights P s ++ y1.1.weights P s, x ≤ reachBytes := by
    intro x hx
    refine hL x ?_
    rw [DataW.weights, ht]
    simp only [List.map_cons, List.map_nil, DataW.weightsEach, h0, h1, List.append_nil]
    exact hx
  obtain ⟨n, e0, z0⟩ := open_text (d := y0.1) (p := y0.2) hs k0 (fun x hx => hw x (List.mem_append_left _ hx))
  obtain ⟨v, e1, z1⟩ := open_text (d := y1.1) (p := y1.2) hs k1 (fun x hx => hw x (List.mem_append_right _ hx))
  match cs, hl with
  | [a, b], _ =>
    simp at e0 e1
    subst e0; subst e1
    exact ⟨n, v, rfl, z0, z1⟩
/-- a slice of structs of two texts -/
theorem open_pairs {t u s : TypeId} {f0 f1 : Field} {fuel : Nat} {a0 : Option Addr} {len cap : Nat} {d : DataW H} {p : List MemPlace} (hu : P.underlying u = some (.slice t)) (ht : P.underlying t = some (.struct #[f0, f1])) (h0 : f0.type = s) (h1 : f1.type = s) (o0 : f0.offset = 0) (o1 : f1.offset = 1)
    (hs : P.underlying s = some .string) (hc : P.cellsOf s = 1) (hct : P.cellsOf t = 2) (h : DataW.trod enc P w base (fun _ => true) held fuel u [.slice a0 len cap] = some (d, p)) (hL : Light P u d) :
    ∃ l : List (ByteArray × ByteArray), l.length = len ∧ IsV w a0 cap l.length (pairV l) ∧ ∀ q ∈ l, q.1.size ≤ reachBytes ∧ q.2.size ≤ reachBytes := by
  rcases Go.Deep.open_slice hu h with ⟨hcs, _⟩ | ⟨a, len', cap', m, n, D, Pl, hcs, _, hl, _, hm, hx, hcell⟩
  · simp at hcs
    obtain ⟨rfl, rfl, rfl⟩ := hcs
    exact ⟨[], rfl, IsV.nil w, fun s hs => by cases hs⟩
  · simp at hcs
    obtain ⟨rfl, rfl, rfl⟩ := hcs
    simp only [if_true] at hm
    subst hm
    injection hx with hd _
    subst hd
    rw [hct] at hcell
    have each : ∀ i, i < len → ∃ q : ByteArray × ByteArray, w.cell? (a.add (i * 2)) = some (.string q.1) ∧ w.cell? (a.add (i * 2 + 1)) = some (.string q.2) ∧ q.1.size ≤ reachBytes ∧ q.2.size ≤ reachBytes := by
      intro i hi
      obtain ⟨cs', k1, k2⟩ := hcell i (by omega)
      obtain ⟨x, y, rfl, zx, zy⟩ := open_pair ht h0 h1 o0 o1 hs hc hct k2 (light_elem hu hL (List.mem_map.2 ⟨i, List.mem_range.2 hi, rfl⟩))
      obtain ⟨_, _, k3⟩ := World.cells?_some k1
      have k30 := k3 0 (by omega)
      have k31 := k3 1 (by omega)
      rw [Addr.add_add] at k30 k31
      exact ⟨(x, y), by simpa using k30, by simpa using k31, zx, zy⟩
    obtain ⟨F, hF⟩ := Go.Deep.choose_lt each
    have hlen : ((List.range len).map F).length = len := by simp
    refine ⟨(List.range len).map F, hlen, ⟨by omega, (fun h => by cases h), fun j u hj => ⟨a, rfl, ?_⟩⟩, fun q hq => ?_⟩
    · have hlt : j < len * 2 := by
        have := (List.getElem?_eq_some_iff.1 hj).1
        rwa [pairV_length, hlen] at this
      have hk : j / 2 < ((List.range len).map F).length := by rw [hlen]; omega
      have hp := pairV_at _ (j / 2) hk
      have hf := hF (j / 2) (by omega)
      have hg : ((List.range len).map F)[j / 2] = F (j / 2) := by simp
      rw [hg] at hp
      by_cases e : j % 2 = 0
      · have ej : j / 2 * 2 = j := by omega
        rw [ej] at hp hf
        rw [hp.1] at hj
        injection hj with hj; subst hj
        exact hf.1
      · have ej : j / 2 * 2 + 1 = j := by omega
        rw [ej] at hp hf
        rw [hp.2] at hj
        injection hj with hj; subst hj
        exact hf.2.1
    · obtain ⟨j, hj, rfl⟩ := List.mem_map.1 hq
      have := hF j (List.mem_range.1 hj)
      exact ⟨this.2.2.1, this.2.2.2⟩
end
end Go.Proofs.YtnacbfeijakipabDoor
