/- Small texts, one behind the other: FdAll, RqLen, RqEnd, RqTake. -/
import Derived.Test.YtbcmlolaihnalacGreatDoorPk8
import Derived.Test.YtbcmlolaihnalacGreatDoorPk18
import Derived.Test.YtbcmlolaihnalacGreatDoorPk7
import Derived.Test.YtbcmlolaihnalacGreatDoorPk13
import Derived.Test.YtbcmlolaihnalacGreatDoorPk17
/- Package fields, walked: All, One. -/
namespace Go.Proofs.YtbcmlolaihnalacGreatDoor
open Go.RowKit

set_option maxHeartbeats 1600000 in
theorem fdAll_any (l : List (ByteArray × ByteArray)) (name : ByteArray) (ao : Option Addr) (cap n : Nat) (w : World) (hl : IsV w ao cap n (pairV l)) (hn : l.length = n) (hN : n ≤ 1000000) (hs : ∀ p ∈ l, p.1.size ≤ 2000 ∧ p.2.size ≤ 2000) (hnm : name.size ≤ 2000) :
    Calls Tryz.prog 66 #[.slice ao n cap, .string name] w fun e w' => ∃ ao' cap', e = .returned (.slice ao' (Fd.vals name l).length cap') ∧ OwnV w' w.heap.size 9 1 ao' cap' (Fd.vals name l).length (strV (Fd.vals name l)) ∧ Below w.heap.size w w' := by
  subst hn
  obtain ⟨i0, hi0, hz0, hz1, hz2⟩ := info_parts info_str
  have Hi := Hid.mk' hi0; have Hz0 := Hid.mk' hz0; have Hz1 := Hid.mk' hz1; have Hz2 := Hid.mk' hz2
  have H := Hid.mk' hl
  have Hs := Hid.mk' hs
  have HSn := Hid.mk' (lower_any name w (by unfold maxLen; omega))
  clear hl hs hi0 hz0 hz1 hz2
  have HX : Hid (∀ p : ByteArray, ((⟨(Ch.lower p.data.toList).toArray⟩ : ByteArray).toList == (⟨(Ch.lower name.data.toList).toArray⟩ : ByteArray).toList) = decide (Ch.lower p.data.toList = Ch.lower name.data.toList)) := by
    intro p; rw [Lib.toList_data, Lib.toList_data, Bool.eq_iff_iff]; simp
  generalize (⟨(Ch.lower name.data.toList).toArray⟩ : ByteArray) = sn at HSn HX
  go_enter Tryz.func66, Tryz.ntmps66
  go_wp2_with fail
  refine HSn.out.mono ?_
  rintro e w0 ⟨rfl, hb0⟩
  have HB0 := Hid.mk' hb0
  clear hb0 HSn
  go_wp2
  go_loopw [6, 13] (fun v t wr => ∃ (k : Nat) (ao' : Option Addr) (cap' : Nat), k ≤ l.length ∧ t = .int .i64 k ∧ v = .slice ao' (Fd.vals name (l.take k)).length cap' ∧ OwnV wr w.heap.size 9 1 ao' cap' (Fd.vals name (l.take k)).length (strV (Fd.vals name (l.take k))) ∧ Below w.heap.size w wr) (fun _ t _ => l.length - (intOf t).toNat)
  case atStart => exact ⟨0, none, 0, Nat.zero_le _, rfl, rfl, OwnV.nil _ _ _ _, HB0.out⟩
  case round =>
    obtain ⟨k, ao', cap', hk, rfl, rfl, hO, hB⟩ := hrel
    have HO := Hid.mk' hO; have HB := Hid.mk' hB
    clear hO hB HB0
    have hvl := Fd.vals_length name (l.take k)
    have hvk : (l.take k).length ≤ k := List.length_take_le _ _
    by_cases hlt : k < l.length
    · have hpl : 0 < (pairV l).length := by rw [pairV_length]; omega
      obtain ⟨bb, oo, rfl, hcs⟩ := H.out.lit hpl
      have h1 := hcs _ _ (pairV_at l k hlt).1
      have h2 := hcs _ _ (pairV_at l k hlt).2
      rw [← Nat.add_assoc] at h2
      have hc0 := (HB.out.cell (World.block_lt_of_cell? w _ h1)).trans h1
      have hc1 := (HB.out.cell (World.block_lt_of_cell? w _ h2)).trans h2
      clear hcs h1 h2
      have HT : Hid (l.take (k + 1) = l.take k ++ [l[k]]) := List.take_succ_eq_append_getElem hlt
      have hp1 := Hs.out l[k] (List.getElem_mem hlt)
      have HSp := Hid.mk' (fun W => lower_any l[k].1 W (by unfold maxLen; omega))
      have HCl := Hid.mk' (fun W => sclone_any l[k].2 W (by have := hp1.2; omega))
      have hlt' : (k : Int) < l.length := by omega
      have HV := Hid.mk' (Fd.vals_snoc name (l.take k) l[k])
      rw [← HT.out] at HV
      generalize l[k] = p at *
      have HTx := Hid.mk' (HX.out p.1)
      generalize (⟨(Ch.lower p.1.data.toList).toArray⟩ : ByteArray) = sp at HSp HTx
      generalize Fd.vals name (l.take k) = vs at HO HV hvl
      by_cases heq : Ch.lower p.1.data.toList = Ch.lower name.data.toList
      · have hx := HTx.out
        rw [decide_eq_true heq] at hx
        have HV2 : Hid (Fd.vals name (l.take (k + 1)) = vs ++ [p.2]) := by have := HV.out; rw [if_pos heq] at this; exact this
        clear HV HTx heq HX
        go_wp2_with fail
        refine (HSp.out _).mono ?_
        rintro e w1 ⟨rfl, hb1⟩
        have X1 := (BoxAt.made wr p.1 p.2 _).stay hb1
        have B1 := Hid.mk' (then_ HB.out X1.below)
        have O1 := Hid.mk' (HO.out.stay X1.below)
        have c1 := X1.c1
        clear hb1 X1 hc0 hc1
        go_wp2_with fail
        refine (HCl.out _).mono ?_
        rintro e w2 ⟨rfl, hb2⟩
        have HB2 := Hid.mk' (then_ B1.out hb2)
        have HO2 := Hid.mk' (O1.out.stay hb2)
        clear hb2 c1 B1 O1
        go_wp2_with (at_builtin; refine wpList_append_v rfl (.tmp 22) (.tmp 26) 49 rfl w.heap.size 9 i0 (.string ⟨#[]⟩) 1 16 Tryz.underlying49 Hi.out Hz0.out Hz1.out Hz2.out rfl (by decide) rfl (HO2.out.alloc _) rfl (IsV.made _ _ 1 _ _) rfl (fun u hu => by simp at hu; subst hu; rfl) (by omega) (by omega) (by have := HB2.out.size; simp; omega) ?_; intro ao3 cap3 w3 hO3 hG3 _)
        go_roundw
        case rel =>
          have e1 : Fd.vals name (l.take (k + 1)) = vs ++ [p.2] := HV2.out
          refine ⟨k + 1, ao3, cap3, by omega, by go_num, by rw [e1, List.length_append]; rfl, ?_, ?_⟩
          · rw [e1, List.length_append, strV_append]; exact hO3
          · exact (HB2.out.alloc HB2.out.size _).grown hG3 (by have := HB2.out.size; simp; omega) (fun q e => by
              cases ao' with
              | none => simp [blockOf] at e
              | some y => simp only [blockOf, Option.some.injEq] at e; have := (HO2.out.block y rfl).1; omega)
        case measure => simp [intOf]; omega
      · have hx := HTx.out
        rw [decide_eq_false heq] at hx
        have HV2 : Hid (Fd.vals name (l.take (k + 1)) = vs) := by have := HV.out; rw [if_neg heq] at this; exact this
        clear HV HTx heq HX
        go_wp2_with fail
        refine (HSp.out _).mono ?_
        rintro e w1 ⟨rfl, hb1⟩
        have X1 := (BoxAt.made wr p.1 p.2 _).stay hb1
        have B1 := Hid.mk' (then_ HB.out X1.below)
        have O1 := Hid.mk' (HO.out.stay X1.below)
        clear hb1 X1 hc0 hc1
        go_wp2
        go_roundw
        case rel => exact ⟨k + 1, ao', cap', by omega, by go_num, by rw [HV2.out], by rw [HV2.out]; exact O1.out, B1.out⟩
        case measure => simp [intOf]; omega
    · obtain rfl : k = l.length := by omega
      go_wp2
      go_ret
      have e : l.take l.length = l := List.take_length
      have h1 := HO.out
      rw [e] at h1
      exact ⟨ao', cap', by rw [e]; rfl, h1, HB.out⟩
end Go.Proofs.YtbcmlolaihnalacGreatDoor

/- Package request, walked: count, length. -/
namespace Go.Proofs.YtbcmlolaihnalacGreatDoor
open Go.RowKit

def cHost : ByteArray := ⟨#[72, 111, 115, 116]⟩
def cSize : ByteArray := ⟨#[67, 111, 110, 116, 101, 110, 116, 45, 76, 101, 110, 103, 116, 104]⟩
def cCode : ByteArray := ⟨#[84, 114, 97, 110, 115, 102, 101, 114, 45, 69, 110, 99, 111, 100, 105, 110, 103]⟩
theorem vals_host (l : List (ByteArray × ByteArray)) : Fd.vals cHost l = Fd.vals bHost l := Fd.vals_same _ _ l (by decide)
theorem vals_size (l : List (ByteArray × ByteArray)) : Fd.vals cSize l = Fd.vals bSize l := Fd.vals_same _ _ l (by decide)
theorem vals_code (l : List (ByteArray × ByteArray)) : Fd.vals cCode l = Fd.vals bCode l := Fd.vals_same _ _ l (by decide)

set_option maxHeartbeats 400000 in
theorem count_any (l : List (ByteArray × ByteArray)) (name : ByteArray) (ao : Option Addr) (cap n : Nat) (w : World) (hl : IsV w ao cap n (pairV l)) (hn : l.length = n) (hN : n ≤ 1000000) (hs : ∀ p ∈ l, p.1.size ≤ 2000 ∧ p.2.size ≤ 2000) (hnm : name.size ≤ 2000) :
    Calls Tryz.prog 50 #[.slice ao n cap, .string name] w fun e w' => e = .returned (.int .i64 ((Fd.vals name l).length : Int)) ∧ Below w.heap.size w w' := by
  have HV := Hid.mk' (fdAll_any l name ao cap n w hl hn hN hs hnm)
  generalize (Fd.vals name l) = vs at HV ⊢
  go_enter Tryz.func50, Tryz.ntmps50
  go_wp2_with (go_at_call 66; refine HV.out.mono ?_; rintro e w1 ⟨ao1, cap1, rfl, hO, hB⟩; have HB := Hid.mk' hB; clear hO hB)
  go_ret
  exact ⟨rfl, HB.out⟩

set_option maxRecDepth 100000 in
set_option maxHeartbeats 2000000 in
theorem length_any (gh mi : Nat) (l : List (ByteArray × ByteArray)) (fo : Option Addr) (fcap n : Nat) (w : World) (c2 : w.cell? ⟨gh, 2, none⟩ = some (.int .i64 (mi : Int))) (c3 : w.cell? ⟨gh, 3, none⟩ = some (.slice fo n fcap)) (hl : IsV w fo fcap n (pairV l)) (hn : l.length = n) (hN : n ≤ 16) (hs : ∀ p ∈ l, p.1.size ≤ 2000 ∧ p.2.size ≤ 2000) :
    Calls Tryz.prog 72 #[.pointer (some ⟨gh, 0, none⟩)] w fun e w' => e = .returned (Rq.lenVal (Rq.lenBy mi (Rq.lists (Fd.vals bSize l)) (Rq.lists (Fd.vals bCode l)))) ∧ Below w.heap.size w w' := by
  have H1 := Hid.mk' (fdAll_any l cCode fo fcap n w hl hn (by omega) hs (by decide))
  have H2 := Hid.mk' (fun W (hW : Below w.heap.size w W) => fdAll_any l cSize fo fcap n W (hl.stay hW) hn (by omega) hs (by decide))
  rw [vals_code] at H1
  simp only [vals_size] at H2
  have HC := Hid.mk' (fun W (hW : Below w.heap.size w W) => And.intro ((hW.cell (World.block_lt_of_cell? w _ c2)).trans c2) ((hW.cell (World.block_lt_of_cell? w _ c3)).trans c3))
  have hm1 : ∀ v ∈ Fd.vals bCode l, v.size ≤ 2000 := fun v hv => by
    obtain ⟨p, hp, rfl⟩ := Fd.vals_mem hv; exact (hs p hp).2
  have hm2 : ∀ v ∈ Fd.vals bSize l, v.size ≤ 2000 := fun v hv => by
    obtain ⟨p, hp, rfl⟩ := Fd.vals_mem hv; exact (hs p hp).2
  have hv1 := Fd.vals_length bCode l
  have hv2 := Fd.vals_length bSize l
  generalize Fd.vals bCode l = cs at H1 hm1 hv1 ⊢
  generalize Fd.vals bSize l = vs at H2 hm2 hv2 ⊢
  have HM1 := Hid.mk' hm1; have HM2 := Hid.mk' hm2
  have hcl : cs.length ≤ 16 := by omega
  have hvl : vs.length ≤ 16 := by omega
  clear hm1 hm2 hl hs hv1 hv2 c2 hn hN
  unfold cCode at H1
  simp only [cSize] at H2
  have HER : Hid (Rq.lenBy mi (Rq.lists vs) (Rq.lists cs) = if Rq.lists cs ≠ [] then (if Rq.lists vs ≠ [] ∨ mi = 0 then .inl 12 else if (Rq.lists cs).length ≠ 1 ∨ Ch.lower ((Rq.lists cs).headD []) ≠ Rq.nChunked then .inl 11 else .inr (-1)) else Rq.sameNum (Rq.lists vs)) := rfl
  generalize Rq.lenBy mi (Rq.lists vs) (Rq.lists cs) = R at HER ⊢
  have hlc : ∀ l : List ByteArray, (Rq.lists l).length = l.length := fun l => by simp [Rq.lists]
  have hln : ∀ l : List ByteArray, Rq.lists l ≠ [] ↔ 0 < l.length := fun l => by rw [← hlc l]; exact List.length_pos_iff.symm
  by_cases hc0 : cs.length = 0
  · have t0 : ((cs.length : Int) == 0) = true := beq_iff_eq.2 (by omega)
    have HS := Hid.mk' (fun ao cap W h => sameNumber_any vs ao cap W h (by omega) HM2.out)
    have hR : R = Rq.sameNum (Rq.lists vs) := by rw [HER.out, if_neg (by rw [hln]; omega)]
    subst hR
    generalize Rq.sameNum (Rq.lists vs) = R at HS ⊢
    generalize cs.length = nc at *
    clear hc0 HER hlc hln
    go_enter Tryz.func72, Tryz.ntmps72
    go_wp2_with fail
    refine H1.out.mono ?_
    rintro e w1 ⟨ao1, cap1, rfl, hO1, hB1⟩
    have HO1 := Hid.mk' hO1; have HB1 := Hid.mk' hB1
    have c3' := (HC.out w1 hB1).2
    clear hO1 hB1
    go_wp2_with fail
    refine (H2.out w1 HB1.out).mono ?_
    rintro e w2 ⟨ao2, cap2, rfl, hO2, hB2⟩
    have HV2 := Hid.mk' hO2.isV; have HV1 := Hid.mk' (HO1.out.isV.stay hB2); have HB2 := Hid.mk' (then_ HB1.out hB2)
    have c2' := (HC.out w2 HB2.out).1
    clear hO2 hB2 c3' c3 H1 H2
    cases R with
    | inl c =>
      unfold Rq.lenVal at HS
      go_wp2_with fail
      refine (HS.out _ _ _ HV2.out).mono ?_
      rintro e w3 ⟨rfl, hw⟩
      subst hw
      go_wp2
      go_ret2
      exact ⟨rfl, HB2.out⟩
    | inr k =>
      unfold Rq.lenVal at HS
      go_wp2_with fail
      refine (HS.out _ _ _ HV2.out).mono ?_
      rintro e w3 ⟨rfl, hw⟩
      subst hw
      go_wp2
      go_ret2
      exact ⟨rfl, HB2.out⟩
  · have t0 : ((cs.length : Int) == 0) = false := beq_eq_false_iff_ne.2 (by omega)
    have hR := HER.out
    rw [if_pos ((hln cs).2 (by omega))] at hR
    by_cases hv0 : 0 < vs.length
    · have tv : decide ((vs.length : Int) > 0) = true := decide_eq_true (by omega)
      rw [if_pos (Or.inl ((hln vs).2 hv0))] at hR
      subst hR
      clear hc0 HER hlc hln
      go_enter Tryz.func72, Tryz.ntmps72
      go_wp2_with fail
      refine H1.out.mono ?_
      rintro e w1 ⟨ao1, cap1, rfl, hO1, hB1⟩
      have HO1 := Hid.mk' hO1; have HB1 := Hid.mk' hB1
      have c3' := (HC.out w1 hB1).2
      clear hO1 hB1
      go_wp2_with fail
      refine (H2.out w1 HB1.out).mono ?_
      rintro e w2 ⟨ao2, cap2, rfl, hO2, hB2⟩
      have HV2 := Hid.mk' hO2.isV; have HV1 := Hid.mk' (HO1.out.isV.stay hB2); have HB2 := Hid.mk' (then_ HB1.out hB2)
      have c2' := (HC.out w2 HB2.out).1
      clear hO2 hB2 c3' c3 H1 H2
      go_wp2
      go_ret2
      exact ⟨rfl, HB2.out⟩
    · have tv : decide ((vs.length : Int) > 0) = false := decide_eq_false (by omega)
      by_cases hm0 : mi = 0
      · have tm : ((mi : Int) == 0) = true := beq_iff_eq.2 (by omega)
        rw [if_pos (Or.inr hm0)] at hR
        subst hR
        generalize vs.length = nv at *
        clear hc0 HER hlc hln hm0
        go_enter Tryz.func72, Tryz.ntmps72
        go_wp2_with fail
        refine H1.out.mono ?_
        rintro e w1 ⟨ao1, cap1, rfl, hO1, hB1⟩
        have HO1 := Hid.mk' hO1; have HB1 := Hid.mk' hB1
        have c3' := (HC.out w1 hB1).2
        clear hO1 hB1
        go_wp2_with fail
        refine (H2.out w1 HB1.out).mono ?_
        rintro e w2 ⟨ao2, cap2, rfl, hO2, hB2⟩
        have HV2 := Hid.mk' hO2.isV; have HV1 := Hid.mk' (HO1.out.isV.stay hB2); have HB2 := Hid.mk' (then_ HB1.out hB2)
        have c2' := (HC.out w2 HB2.out).1
        clear hO2 hB2 c3' c3 H1 H2
        go_wp2
        go_ret2
        exact ⟨rfl, HB2.out⟩
      · have tm : ((mi : Int) == 0) = false := beq_eq_false_iff_ne.2 (by omega)
        rw [if_neg (fun e => by rcases e with e | e; exact hv0 ((hln vs).1 e); exact hm0 e)] at hR
        by_cases hc1 : 1 < cs.length
        · have t1 : decide ((cs.length : Int) > 1) = true := decide_eq_true (by omega)
          rw [if_pos (Or.inl (by rw [hlc]; omega))] at hR
          subst hR
          generalize vs.length = nv at *
          clear hc0 HER hlc hln hm0
          go_enter Tryz.func72, Tryz.ntmps72
          go_wp2_with fail
          refine H1.out.mono ?_
          rintro e w1 ⟨ao1, cap1, rfl, hO1, hB1⟩
          have HO1 := Hid.mk' hO1; have HB1 := Hid.mk' hB1
          have c3' := (HC.out w1 hB1).2
          clear hO1 hB1
          go_wp2_with fail
          refine (H2.out w1 HB1.out).mono ?_
          rintro e w2 ⟨ao2, cap2, rfl, hO2, hB2⟩
          have HV2 := Hid.mk' hO2.isV; have HV1 := Hid.mk' (HO1.out.isV.stay hB2); have HB2 := Hid.mk' (then_ HB1.out hB2)
          have c2' := (HC.out w2 HB2.out).1
          clear hO2 hB2 c3' c3 H1 H2
          go_wp2
          go_ret2
          exact ⟨rfl, HB2.out⟩
        · have t1 : decide ((cs.length : Int) > 1) = false := decide_eq_false (by omega)
          have hc01 : 0 < cs.length := by omega
          have hhd : (Rq.lists cs).headD [] = cs[0].data.toList := by
            cases cs with
            | nil => simp at hc01
            | cons v r => rfl
          have HS0 := Hid.mk' (strV_at cs 0 hc01)
          have hsz := HM1.out cs[0] (List.getElem_mem hc01)
          rw [hhd, hlc] at hR
          generalize cs[0] = x at *
          have HLo := Hid.mk' (fun W => lower_any x W (by unfold maxLen; omega))
          have hcp : (Rq.lists cs).length = 1 := by rw [hlc]; omega
          by_cases hch : Ch.lower x.data.toList = Rq.nChunked
          · rw [if_neg (fun e => by rcases e with e | e; exact e (by omega); exact e hch)] at hR
            subst hR
            rw [hch] at HLo
            generalize vs.length = nv at *
            clear hc0 HER hlc hln hm0 hhd hcp hch
            go_enter Tryz.func72, Tryz.ntmps72
            go_wp2_with fail
            refine H1.out.mono ?_
            rintro e w1 ⟨ao1, cap1, rfl, hO1, hB1⟩
            have HO1 := Hid.mk' hO1; have HB1 := Hid.mk' hB1
            have c3' := (HC.out w1 hB1).2
            clear hO1 hB1
            go_wp2_with fail
            refine (H2.out w1 HB1.out).mono ?_
            rintro e w2 ⟨ao2, cap2, rfl, hO2, hB2⟩
            have HV2 := Hid.mk' hO2.isV; have HV1 := Hid.mk' (HO1.out.isV.stay hB2); have HB2 := Hid.mk' (then_ HB1.out hB2)
            have c2' := (HC.out w2 HB2.out).1
            clear hO2 hB2 c3' c3 H1 H2
            obtain ⟨bb, oo, rfl, hcc⟩ := HV1.out.lit (by rw [strV_length]; omega)
            have x0 : w2.cell? ⟨bb, oo, none⟩ = some (.string x) := by have := hcc 0 _ HS0.out; simpa using this
            have hcap := HV1.out.1
            clear hcc
            go_wp2_with fail
            refine (HLo.out _).mono ?_
            rintro e w3 ⟨rfl, hb3⟩
            have HB3 := Hid.mk' (then_ HB2.out hb3)
            clear hb3
            go_wp2
            go_ret2
            exact ⟨rfl, HB3.out⟩
          · rw [if_pos (Or.inr hch)] at hR
            subst hR
            have hne : ((⟨(Ch.lower x.data.toList).toArray⟩ : ByteArray).toList == [99, 104, 117, 110, 107, 101, 100]) = false := by
              rw [Lib.toList_data, beq_eq_false_iff_ne]; exact hch
            generalize (⟨(Ch.lower x.data.toList).toArray⟩ : ByteArray) = lx at HLo hne
            generalize vs.length = nv at *
            clear hc0 HER hlc hln hm0 hhd hcp hch
            go_enter Tryz.func72, Tryz.ntmps72
            go_wp2_with fail
            refine H1.out.mono ?_
            rintro e w1 ⟨ao1, cap1, rfl, hO1, hB1⟩
            have HO1 := Hid.mk' hO1; have HB1 := Hid.mk' hB1
            have c3' := (HC.out w1 hB1).2
            clear hO1 hB1
            go_wp2_with fail
            refine (H2.out w1 HB1.out).mono ?_
            rintro e w2 ⟨ao2, cap2, rfl, hO2, hB2⟩
            have HV2 := Hid.mk' hO2.isV; have HV1 := Hid.mk' (HO1.out.isV.stay hB2); have HB2 := Hid.mk' (then_ HB1.out hB2)
            have c2' := (HC.out w2 HB2.out).1
            clear hO2 hB2 c3' c3 H1 H2
            obtain ⟨bb, oo, rfl, hcc⟩ := HV1.out.lit (by rw [strV_length]; omega)
            have x0 : w2.cell? ⟨bb, oo, none⟩ = some (.string x) := by have := hcc 0 _ HS0.out; simpa using this
            have hcap := HV1.out.1
            clear hcc
            go_wp2_with fail
            refine (HLo.out _).mono ?_
            rintro e w3 ⟨rfl, hb3⟩
            have HB3 := Hid.mk' (then_ HB2.out hb3)
            clear hb3
            go_wp2
            go_ret2
            exact ⟨rfl, HB3.out⟩
end Go.Proofs.YtbcmlolaihnalacGreatDoor

/- Package request, walked: the end of a head. -/
namespace Go.Proofs.YtbcmlolaihnalacGreatDoor
open Go.RowKit

theorem Rq.sizes_code (f : List UInt8) : ∀ (l : List (List UInt8)) (n : Int) (c : Nat), Rq.sizes f n l = .inl c → c ≠ 0
  | [], n, c, e => by cases e
  | v :: t, n, c, e => by
    rw [Rq.sizes] at e
    split at e
    · injection e with e; omega
    · split at e
      · injection e with e; omega
      · exact Rq.sizes_code f t _ c e
theorem Rq.lenBy_code {mi : Nat} {V C : List (List UInt8)} {c : Nat} (e : Rq.lenBy mi V C = .inl c) : c ≠ 0 := by
  unfold Rq.lenBy Rq.sameNum at e
  split at e
  · split at e
    · injection e with e; omega
    · split at e
      · injection e with e; omega
      · cases e
  · split at e
    · rename_i hs
      injection e with e; subst e
      exact Rq.sizes_code _ _ _ _ hs
    · split at e
      · injection e with e; omega
      · cases e
/-- a head's length, by the texts of its fields -/
theorem Rq.len_texts (h : Rq.Hd) : Rq.len h = if 1 < (Fd.vals bHost (Rq.flT h.fields)).length ∨ (Fd.vals bHost (Rq.flT h.fields)).length = 0 ∧ h.minor = 1 then .inl 13 else Rq.lenBy h.minor (Rq.lists (Fd.vals bSize (Rq.flT h.fields))) (Rq.lists (Fd.vals bCode (Rq.flT h.fields))) := by
  rw [Rq.len_eq, Rq.lenOf_eq]
  have e : ∀ (b : ByteArray), Ch.lower b.data.toList = b.data.toList → Rq.vals h.fields b.data.toList = Rq.lists (Fd.vals b (Rq.flT h.fields)) := fun b hb => by
    have := Rq.vals_flB (Rq.flT h.fields) b hb
    rw [Rq.flB_flT] at this
    exact this
  have e1 := e bHost (by decide)
  have e2 := e bSize (by decide)
  have e3 := e bCode (by decide)
  have e1' : Rq.vals h.fields Rq.nHost = Rq.lists (Fd.vals bHost (Rq.flT h.fields)) := e1
  have e2' : Rq.vals h.fields Rq.nSize = Rq.lists (Fd.vals bSize (Rq.flT h.fields)) := e2
  have e3' : Rq.vals h.fields Rq.nCode = Rq.lists (Fd.vals bCode (Rq.flT h.fields)) := e3
  rw [e1', e2', e3']
  have el : (Rq.lists (Fd.vals bHost (Rq.flT h.fields))).length = (Fd.vals bHost (Rq.flT h.fields)).length := by simp [Rq.lists]
  rw [el]
/-- what a head's end comes to -/
inductive HdEnd (w : World) (S : Nat → Prop) (g gh : Nat) (lp bd : Value) (h : Rq.Hd) (e : Ending) (w' : World) : Prop
  | bad (c : Nat) (hc : c ≠ 0) (he : e = .returned (.int .i64 (c : Int))) (hf : Rq.len h = .inl c) (hP : PsAt w' g lp (.pointer (some ⟨gh, 0, none⟩)) false bd 0) (hT : Turns (fun k => S k ∨ k = g) w w')
  | ok (k : Int) (he : e = .returned (.int .i64 0)) (hf : Rq.len h = .inr k) (hP : PsAt w' g lp (.pointer (some ⟨gh, 0, none⟩)) true bd 0) (hH : HeadAt w' S gh { h with length := k }) (hT : Turns (fun k => S k ∨ k = g) w w')
theorem head_cells {w : World} {S : Nat → Prop} {gh : Nat} {h : Rq.Hd} (k : HeadAt w S gh h) : w.cell? ⟨gh, 4, none⟩ = some (.int .i64 h.length) ∧ w.frozen? ⟨gh, 4, none⟩ = false := by
  obtain ⟨fo, fcap, hg, _⟩ := k
  exact ⟨cell_of_row w gh 4 _ _ _ hg, frozen_of_row w gh 4 _ _ hg⟩
/-- both stores of an end -/
theorem end_out {w w2 : World} {S : Nat → Prop} {g gh : Nat} {lp bd : Value} {h : Rq.Hd} (n : Int) (b : Bool) (hB : Below w.heap.size w w2) (hP : PsAt w2 g lp (.pointer (some ⟨gh, 0, none⟩)) false bd 0) (hH : HeadAt w2 S gh h) (hg : ¬ S g) :
    PsAt ((w2.setCell ⟨gh, 4, none⟩ (.int .i64 n)).setCell ⟨g, 2, none⟩ (.bool b)) g lp (.pointer (some ⟨gh, 0, none⟩)) b bd 0 ∧ HeadAt ((w2.setCell ⟨gh, 4, none⟩ (.int .i64 n)).setCell ⟨g, 2, none⟩ (.bool b)) S gh { h with length := n } ∧ Turns (fun k => S k ∨ k = g) w ((w2.setCell ⟨gh, 4, none⟩ (.int .i64 n)).setCell ⟨g, 2, none⟩ (.bool b)) := by
  obtain ⟨h1, h2⟩ := hH.len n
  have hP1 := hP.turns h2 hg
  refine ⟨hP1.s2 b, h1.turns (Turns.setCell (fun k => k = g) _ _ _ rfl) (fun k hk e => hg (e ▸ hk)), ?_⟩
  exact (Turns.of_below (S := fun k => S k ∨ k = g) hB).trans ((h2.mono (fun k e => Or.inl e)).trans (Turns.setCell (fun k => S k ∨ k = g) _ _ _ (Or.inr rfl)) (fun _ e _ => e)) (fun _ e _ => e)

set_option maxRecDepth 100000 in
set_option maxHeartbeats 2000000 in
theorem end_any (w : World) (g gh : Nat) (lp bd : Value) (S : Nat → Prop) (h : Rq.Hd) (hP : PsAt w g lp (.pointer (some ⟨gh, 0, none⟩)) false bd 0) (hH : HeadAt w S gh h) (hg : ¬ S g) (hG : Rq.HGood h) :
    Calls Tryz.prog 56 #[.pointer (some ⟨g, 0, none⟩)] w fun e w' => HdEnd w S g gh lp bd h e w' := by
  have HHd := Hid.mk' hH
  have HP := Hid.mk' hP
  have HGn := Hid.mk' hg
  obtain ⟨fo, fcap, hr, ho, h1, h2⟩ := hH
  have c1 := hP.c1
  have c3 : w.cell? ⟨gh, 3, none⟩ = some (.slice fo h.fields.length fcap) := cell_of_row w gh 3 _ _ _ hr
  have c2 : w.cell? ⟨gh, 2, none⟩ = some (.int .i64 (h.minor : Int)) := cell_of_row w gh 2 _ _ _ hr
  have hs : ∀ p ∈ Rq.flT h.fields, p.1.size ≤ 2000 ∧ p.2.size ≤ 2000 := fun p hp => by
    obtain ⟨f, hf, rfl⟩ := List.mem_map.1 hp
    have := hG.fields f hf
    exact ⟨by show f.1.toArray.size ≤ 2000; rw [List.size_toArray]; omega, by show f.2.toArray.size ≤ 2000; rw [List.size_toArray]; omega⟩
  have hfl : (Rq.flT h.fields).length = h.fields.length := Rq.flT_length _
  have hmany := hG.many
  have HC := Hid.mk' (fun W (hW : Below w.heap.size w W) => And.intro ((hW.cell (World.block_lt_of_cell? w _ c1)).trans c1) (And.intro ((hW.cell (World.block_lt_of_cell? w _ c2)).trans c2) ((hW.cell (World.block_lt_of_cell? w _ c3)).trans c3)))
  have HH := Hid.mk' (count_any (Rq.flT h.fields) cHost fo fcap h.fields.length w ho.isV hfl (by omega) hs (by decide))
  rw [vals_host] at HH
  have HL := Hid.mk' (fun W (hW : Below w.heap.size w W) => length_any gh h.minor (Rq.flT h.fields) fo fcap h.fields.length W (HC.out W hW).2.1 (HC.out W hW).2.2 (ho.isV.stay hW) hfl (by omega) hs)
  have hlen := Rq.len_texts h
  generalize (Fd.vals bHost (Rq.flT h.fields)).length = H at HH hlen
  have hcode : ∀ c, Rq.lenBy h.minor (Rq.lists (Fd.vals bSize (Rq.flT h.fields))) (Rq.lists (Fd.vals bCode (Rq.flT h.fields))) = .inl c → c ≠ 0 := fun c e => Rq.lenBy_code e
  generalize Rq.lenBy h.minor (Rq.lists (Fd.vals bSize (Rq.flT h.fields))) (Rq.lists (Fd.vals bCode (Rq.flT h.fields))) = R at HL hlen hcode
  unfold cHost at HH
  clear hr ho hs hfl hmany hG h1 h2 hP hg
  by_cases hb : 1 < H ∨ H = 0 ∧ h.minor = 1
  · rw [if_pos hb] at hlen
    have HF := Hid.mk' hlen
    clear hlen hcode HL
    by_cases hH1 : 1 < H
    · have t1 : decide ((H : Int) > 1) = true := decide_eq_true (by omega)
      clear hb
      go_enter Tryz.func56, Tryz.ntmps56
      go_wp2_with fail
      refine HH.out.mono ?_
      rintro e w1 ⟨rfl, hb1⟩
      have HB1 := Hid.mk' hb1
      have k1 := (HC.out w1 hb1).1
      have k2 := (HC.out w1 hb1).2.1
      clear hb1
      go_wp2
      go_ret
      exact .bad 13 (by omega) rfl HF.out (HP.out.stay HB1.out) (Turns.of_below HB1.out)
    · have t1 : decide ((H : Int) > 1) = false := decide_eq_false (by omega)
      have t0 : ((H : Int) == 0) = true := beq_iff_eq.2 (by omega)
      have tm : ((h.minor : Int) == 1) = true := beq_iff_eq.2 (by omega)
      clear hb hH1
      go_enter Tryz.func56, Tryz.ntmps56
      go_wp2_with fail
      refine HH.out.mono ?_
      rintro e w1 ⟨rfl, hb1⟩
      have HB1 := Hid.mk' hb1
      have k1 := (HC.out w1 hb1).1
      have k2 := (HC.out w1 hb1).2.1
      clear hb1
      go_wp2
      go_ret
      exact .bad 13 (by omega) rfl HF.out (HP.out.stay HB1.out) (Turns.of_below HB1.out)
  · rw [if_neg hb] at hlen
    have HF := Hid.mk' hlen
    clear hlen
    have t1 : decide ((H : Int) > 1) = false := decide_eq_false (by omega)
    have hz : ((H : Int) == 0) = false ∨ ((H : Int) == 0) = true ∧ ((h.minor : Int) == 1) = false := by
      by_cases h0 : H = 0
      · exact Or.inr ⟨beq_iff_eq.2 (by omega), beq_eq_false_iff_ne.2 (by omega)⟩
      · exact Or.inl (beq_eq_false_iff_ne.2 (by omega))
    clear hb
    cases R with
    | inl c =>
      have tc : ((c : Int) == 0) = false := beq_eq_false_iff_ne.2 (by have := hcode c rfl; omega)
      have HCo := Hid.mk' (hcode c rfl)
      unfold Rq.lenVal at HL
      clear hcode
      rcases hz with t0 | ⟨t0, tm⟩
      · go_enter Tryz.func56, Tryz.ntmps56
        go_wp2_with fail
        refine HH.out.mono ?_
        rintro e w1 ⟨rfl, hb1⟩
        have HB1 := Hid.mk' hb1
        have k1 := (HC.out w1 hb1).1
        have k2 := (HC.out w1 hb1).2.1
        clear hb1
        go_wp2_with fail
        refine (HL.out w1 HB1.out).mono ?_
        rintro e w2 ⟨rfl, hb2⟩
        have hb3 := then_ HB1.out hb2
        have HP2 := Hid.mk' (HP.out.stay hb3); have HH2 := Hid.mk' (HHd.out.stay hb3); have HB2 := Hid.mk' hb3
        have q1 := HP2.out.c1
        have q2 := HP2.out.c2
        have qf := HP2.out.fz 2
        have m4 := (head_cells HH2.out).1
        have mf := (head_cells HH2.out).2
        clear hb2 hb3 k1 k2
        go_wp2
        go_ret
        obtain ⟨o1, o2, o3⟩ := end_out 0 false HB2.out HP2.out HH2.out HGn.out
        exact .bad c HCo.out rfl HF.out o1 o3
      · go_enter Tryz.func56, Tryz.ntmps56
        go_wp2_with fail
        refine HH.out.mono ?_
        rintro e w1 ⟨rfl, hb1⟩
        have HB1 := Hid.mk' hb1
        have k1 := (HC.out w1 hb1).1
        have k2 := (HC.out w1 hb1).2.1
        clear hb1
        go_wp2_with fail
        refine (HL.out w1 HB1.out).mono ?_
        rintro e w2 ⟨rfl, hb2⟩
        have hb3 := then_ HB1.out hb2
        have HP2 := Hid.mk' (HP.out.stay hb3); have HH2 := Hid.mk' (HHd.out.stay hb3); have HB2 := Hid.mk' hb3
        have q1 := HP2.out.c1
        have q2 := HP2.out.c2
        have qf := HP2.out.fz 2
        have m4 := (head_cells HH2.out).1
        have mf := (head_cells HH2.out).2
        clear hb2 hb3 k1 k2
        go_wp2
        go_ret
        obtain ⟨o1, o2, o3⟩ := end_out 0 false HB2.out HP2.out HH2.out HGn.out
        exact .bad c HCo.out rfl HF.out o1 o3
    | inr k =>
      unfold Rq.lenVal at HL
      clear hcode
      rcases hz with t0 | ⟨t0, tm⟩
      · go_enter Tryz.func56, Tryz.ntmps56
        go_wp2_with fail
        refine HH.out.mono ?_
        rintro e w1 ⟨rfl, hb1⟩
        have HB1 := Hid.mk' hb1
        have k1 := (HC.out w1 hb1).1
        have k2 := (HC.out w1 hb1).2.1
        clear hb1
        go_wp2_with fail
        refine (HL.out w1 HB1.out).mono ?_
        rintro e w2 ⟨rfl, hb2⟩
        have hb3 := then_ HB1.out hb2
        have HP2 := Hid.mk' (HP.out.stay hb3); have HH2 := Hid.mk' (HHd.out.stay hb3); have HB2 := Hid.mk' hb3
        have q1 := HP2.out.c1
        have q2 := HP2.out.c2
        have qf := HP2.out.fz 2
        have m4 := (head_cells HH2.out).1
        have mf := (head_cells HH2.out).2
        clear hb2 hb3 k1 k2
        go_wp2
        go_ret
        obtain ⟨o1, o2, o3⟩ := end_out k true HB2.out HP2.out HH2.out HGn.out
        exact .ok k rfl HF.out o1 o2 o3
      · go_enter Tryz.func56, Tryz.ntmps56
        go_wp2_with fail
        refine HH.out.mono ?_
        rintro e w1 ⟨rfl, hb1⟩
        have HB1 := Hid.mk' hb1
        have k1 := (HC.out w1 hb1).1
        have k2 := (HC.out w1 hb1).2.1
        clear hb1
        go_wp2_with fail
        refine (HL.out w1 HB1.out).mono ?_
        rintro e w2 ⟨rfl, hb2⟩
        have hb3 := then_ HB1.out hb2
        have HP2 := Hid.mk' (HP.out.stay hb3); have HH2 := Hid.mk' (HHd.out.stay hb3); have HB2 := Hid.mk' hb3
        have q1 := HP2.out.c1
        have q2 := HP2.out.c2
        have qf := HP2.out.fz 2
        have m4 := (head_cells HH2.out).1
        have mf := (head_cells HH2.out).2
        clear hb2 hb3 k1 k2
        go_wp2
        go_ret
        obtain ⟨o1, o2, o3⟩ := end_out k true HB2.out HP2.out HH2.out HGn.out
        exact .ok k rfl HF.out o1 o2 o3
end Go.Proofs.YtbcmlolaihnalacGreatDoor

/- Package request, walked: a line of a head is taken; a head is given. -/
namespace Go.Proofs.YtbcmlolaihnalacGreatDoor
open Go.RowKit

/-- what a line comes to -/
inductive HdTake (w : World) (S : Nat → Prop) (g : Nat) (s : Rq.St) (t : List UInt8) (e : Ending) (w' : World) : Prop
  | quiet (s' : Rq.St) (he : e = .returned (.int .i64 0)) (hl : Rq.line s t = (s', [])) (hR : ReqAt w' (orNew S w) g s') (hT : Turns S w w')
  | bad (c : Nat) (hc : c ≠ 0) (he : e = .returned (.int .i64 (c : Int))) (hl : Rq.line s t = (Rq.dead s, [.fail c])) (lp hp bd : Value) (hP : PsAt w' g lp hp false bd 0) (hT : Turns S w w')
  | whole (k : Int) (gl gh : Nat) (D : Nat → Prop) (he : e = .returned (.int .i64 0)) (hk : Rq.len s.hd = .inr k) (ht : t = []) (h1 : s.ph = 1) (hP : PsAt w' g (.pointer (some ⟨gl, 0, none⟩)) (.pointer (some ⟨gh, 0, none⟩)) true .nilIface 0)
      (hL : LineAt w' (fun k => (S k ∧ k ≠ g) ∧ ¬ D k) gl s.ln) (hH : HeadAt w' (fun k => (S k ∧ k ≠ g) ∧ D k) gh { s.hd with length := k }) (hT : Turns S w w')

theorem text_empty {t : ByteArray} (h : t.data.toList = []) : t = ⟨#[]⟩ := by
  have : t.data = #[] := by
    apply Array.ext'
    simpa using h
  cases t; simp only at this; rw [this]
theorem text_some {t : ByteArray} (h : t.data.toList ≠ []) : 0 < t.size := by
  have h2 : t.data.toList.length = t.size := by rw [Array.length_toList]; rfl
  have := List.length_pos_iff.2 h
  omega
theorem ReqAt.new {w W : World} {S : Nat → Prop} {g : Nat} {s : Rq.St} (h : ReqAt w S g s) : ReqAt w (orNew S W) g s := h.mono (fun _ _ e => Or.inl e)

set_option maxHeartbeats 1000000 in
theorem take_at0 (w : World) (S : Nat → Prop) (g : Nat) (s : Rq.St) (t : ByteArray) (h : ReqAt w S g s) (hp : s.ph = 0) (ht : t.size ≤ 200) (hv : ∀ b ∈ t.data.toList, Ch.visible b.toNat = true) :
    Calls Tryz.prog 37 #[.pointer (some ⟨g, 0, none⟩), .string t] w fun e w' => HdTake w S g s t.data.toList e w' := by
  have HR := Hid.mk' h
  obtain ⟨hg, lp, hpp, bd, code, hP, hI⟩ := h
  cases hI with
  | dead c hc h4 => omega
  | at1 gl gh D h1 L H => omega
  | at2 gl gb h2 L hb B => omega
  | at3 gl gb D h3 L B => omega
  | at0 gl h0 L =>
    have c1 := hP.c1
    by_cases hn : t.data.toList = []
    · obtain rfl := text_empty hn
      have HL : Hid (Rq.line s [] = (s, [])) := by unfold Hid Rq.line; rw [if_pos hp, if_pos rfl]
      clear hP L hn
      go_enter Tryz.func37, Tryz.ntmps37
      go_wp2
      go_ret
      exact .quiet s rfl HL.out HR.out.new (Turns.refl _ _)
    · have hts := text_some hn
      have hemp : t.toList.isEmpty = false := Ch.isEmpty_false t hts
      have HF := Hid.mk' (first_any w g _ _ t hP (by omega) hv)
      have HL : Hid (Rq.line s t.data.toList = match Rq.first t.data.toList with | .inl c => (Rq.dead s, [.fail c]) | .inr h => ({ s with ph := 1, hd := h }, [])) := by
        unfold Hid Rq.line; rw [if_pos hp, if_neg hn]
        cases Rq.first t.data.toList <;> rfl
      have HPp := Hid.mk' hP; have HLn := Hid.mk' L; have HGm := Hid.mk' hg
      have HNz : Hid (∀ c, Rq.first t.data.toList = .inl c → c ≠ 0) := fun c e => by
        unfold Rq.first at e
        split at e
        · split at e
          · injection e with e; omega
          · split at e
            · injection e with e; omega
            · split at e
              · cases e
              · split at e
                · cases e
                · injection e with e; omega
        · injection e with e; omega
      clear hP L hg hn hv
      generalize t.data.toList = tl at *
      go_enter Tryz.func37, Tryz.ntmps37
      go_wp2_with fail
      refine HF.out.mono ?_
      rintro e w1 (⟨c, rfl, hf, hB⟩ | ⟨hd, gh, rfl, hf, hP1, hH1, hT1⟩)
      · have HFf := Hid.mk' hf; have HB := Hid.mk' hB
        clear hf hB
        go_wp2
        go_ret
        refine .bad c (HNz.out c HFf.out) rfl ?_ _ _ _ (HPp.out.stay HB.out) (Turns.of_below HB.out)
        rw [HL.out, HFf.out]
      · have HFf := Hid.mk' hf; have HP1 := Hid.mk' hP1; have HH1 := Hid.mk' hH1; have HT1 := Hid.mk' hT1
        clear hf hP1 hH1 hT1
        go_wp2
        go_ret
        refine .quiet { s with ph := 1, hd := hd } rfl (by rw [HL.out, HFf.out]) ⟨Or.inl HGm.out, _, _, _, _, HP1.out, ?_⟩ (HT1.out.mono (fun k e => by rw [e]; exact HGm.out))
        refine .at1 gl gh (fun k => w.heap.size ≤ k) rfl ?_ ?_
        · refine ((HLn.out.mono (S' := fun k => (orNew S w k ∧ k ≠ g) ∧ ¬ w.heap.size ≤ k) (fun k hk e => ⟨⟨Or.inl e.1, e.2⟩, by omega⟩)).turns HT1.out (fun k e => e.1.2))
        · refine HH1.out.mono (fun k hk e => ⟨⟨Or.inr e, ?_⟩, e⟩)
          have := HPp.out.lt; omega

set_option maxHeartbeats 2000000 in
theorem take_at1 (w : World) (S : Nat → Prop) (g : Nat) (s : Rq.St) (t : ByteArray) (h : ReqAt w S g s) (hp : s.ph = 1) (hG : Rq.HGood s.hd) (ht : t.size ≤ 200) :
    Calls Tryz.prog 37 #[.pointer (some ⟨g, 0, none⟩), .string t] w fun e w' => HdTake w S g s t.data.toList e w' := by
  obtain ⟨hg, lp, hpp, bd, code, hP, hI⟩ := h
  cases hI with
  | dead c hc h4 => omega
  | at0 gl h0 L => omega
  | at2 gl gb h2 L hb B => omega
  | at3 gl gb D h3 L B => omega
  | at1 gl gh D h1 L H =>
    have c1 := hP.c1
    have hng : ¬ ((fun k => (S k ∧ k ≠ g) ∧ D k) g) := fun e => e.1.2 rfl
    have HPp := Hid.mk' hP; have HLn := Hid.mk' L; have HGm := Hid.mk' hg; have HHd := Hid.mk' H
    by_cases hn : t.data.toList = []
    · obtain rfl := text_empty hn
      have HE := Hid.mk' (end_any w g gh _ _ _ s.hd hP H hng hG)
      have HL : Hid (∀ c, Rq.len s.hd = .inl c → Rq.line s [] = (Rq.dead s, [.fail c])) := fun c e => by
        unfold Rq.line; rw [if_neg (by omega), if_pos rfl, e]
      clear hP L hg hn H hng
      go_enter Tryz.func37, Tryz.ntmps37
      go_wp2_with fail
      refine HE.out.mono ?_
      rintro e w1 (⟨c, hc, rfl, hf, hP1, hT1⟩ | ⟨k, rfl, hf, hP1, hH1, hT1⟩)
      · have HFf := Hid.mk' hf; have HP1 := Hid.mk' hP1; have HT1 := Hid.mk' hT1; have HCn := Hid.mk' hc
        clear hf hP1 hT1 hc
        go_wp2
        go_ret
        exact .bad c HCn.out rfl (HL.out c HFf.out) _ _ _ HP1.out (HT1.out.mono (fun k e => by
          rcases e with e | e
          · exact e.1.1
          · rw [e]; exact HGm.out))
      · have HFf := Hid.mk' hf; have HP1 := Hid.mk' hP1; have HT1 := Hid.mk' hT1; have HH1 := Hid.mk' hH1
        clear hf hP1 hT1 hH1
        go_wp2
        go_ret
        refine .whole k gl gh D rfl HFf.out rfl hp HP1.out ?_ HH1.out (HT1.out.mono (fun k e => by
          rcases e with e | e
          · exact e.1.1
          · rw [e]; exact HGm.out))
        exact HLn.out.turns HT1.out (fun k e e2 => by
          rcases e2 with e2 | e2
          · exact e.2 e2.2
          · exact e.1.2 e2)
    · have hts := text_some hn
      have hemp : t.toList.isEmpty = false := Ch.isEmpty_false t hts
      have hline : Rq.line s t.data.toList = if s.hd.fields.length = 16 then (Rq.dead s, [.fail 8]) else if (Fd.of t.data.toList).code ≠ 0 then (Rq.dead s, [.fail (Fd.of t.data.toList).code]) else ({ s with hd := { s.hd with fields := s.hd.fields ++ [((Fd.of t.data.toList).name, (Fd.of t.data.toList).value)] } }, []) := by
        unfold Rq.line; rw [if_neg (by omega), if_neg hn]
      by_cases h16 : s.hd.fields.length = 16
      · have HF := Hid.mk' (field_many w g gh _ _ _ s.hd t hP H h16)
        rw [if_pos h16] at hline
        have HL := Hid.mk' hline
        generalize t.data.toList = tl at *
        clear hP L hg hn H hng hline h16
        go_enter Tryz.func37, Tryz.ntmps37
        go_wp2_with fail
        refine HF.out.mono ?_
        rintro e w1 ⟨rfl, hw⟩
        subst hw
        go_wp2
        go_ret
        exact .bad 8 (by omega) rfl HL.out _ _ _ HPp.out (Turns.refl _ _)
      · rw [if_neg h16] at hline
        by_cases hc : (Fd.of t.data.toList).code = 0
        · have HF := Hid.mk' (field_ok w g gh _ _ _ s.hd t hP H hng (by have := hG.many; omega) (by omega) hc)
          rw [if_neg (fun e => e hc)] at hline
          have HL := Hid.mk' hline
          generalize Fd.of t.data.toList = fd at *
          generalize t.data.toList = tl at *
          clear hP L hg hn H hng hline h16 hc
          go_enter Tryz.func37, Tryz.ntmps37
          go_wp2_with fail
          refine HF.out.mono ?_
          rintro e w1 ⟨rfl, hP1, hH1, hT1⟩
          have HP1 := Hid.mk' hP1; have HH1 := Hid.mk' hH1; have HT1 := Hid.mk' hT1
          clear hP1 hH1 hT1
          go_wp2
          go_ret
          refine .quiet _ rfl HL.out ⟨Or.inl HGm.out, _, _, _, _, HP1.out, ?_⟩ (HT1.out.mono (fun k e => e.1.1))
          refine .at1 gl gh (fun k => D k ∨ w.heap.size ≤ k) hp ?_ ?_
          · refine ((HLn.out.mono (S' := fun k => ((orNew S w k ∧ k ≠ g) ∧ ¬ (D k ∨ w.heap.size ≤ k))) (fun k hk e => ⟨⟨Or.inl e.1.1, e.1.2⟩, fun e2 => by
              rcases e2 with e2 | e2
              · exact e.2 e2
              · omega⟩)).turns HT1.out (fun k e e2 => e.2 (Or.inl e2.2)))
          · refine HH1.out.mono (fun k hk e => ?_)
            rcases e with e | e
            · exact ⟨⟨Or.inl e.1.1, e.1.2⟩, Or.inl e.2⟩
            · exact ⟨⟨Or.inr e, by have := HPp.out.lt; omega⟩, Or.inr e⟩
        · have HF := Hid.mk' (field_bad w g gh _ _ _ s.hd t hP H h16 (by omega) hc)
          rw [if_pos hc] at hline
          have HL := Hid.mk' hline; have HCn := Hid.mk' hc
          generalize (Fd.of t.data.toList).code = cc at *
          generalize t.data.toList = tl at *
          clear hP L hg hn H hng hline h16 hc
          go_enter Tryz.func37, Tryz.ntmps37
          go_wp2_with fail
          refine HF.out.mono ?_
          rintro e w1 ⟨rfl, hB⟩
          have HB := Hid.mk' hB
          clear hB
          go_wp2
          go_ret
          exact .bad cc HCn.out rfl HL.out _ _ _ (HPp.out.stay HB.out) (Turns.of_below HB.out)
end Go.Proofs.YtbcmlolaihnalacGreatDoor
