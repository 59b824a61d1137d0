/- Small texts, one behind the other: RfPartB, RfFoR, RfFoD, RfFoE. -/
import Derived.Test.YtjpenioloeplgacGreatDoorPk25
import Derived.Test.YtjpenioloeplgacGreatDoorMemB
import Derived.Deep.RegionHeldLaw
import Derived.Test.YtjpenioloeplgacGreatDoorRfFoA
import Derived.Test.YtjpenioloeplgacGreatDoorPk14
import Derived.Test.YtjpenioloeplgacGreatDoorPk10
import Derived.Test.YtjpenioloeplgacGreatDoorPk18
import Derived.Test.YtjpenioloeplgacGreatDoorPk9
import Derived.Test.YtjpenioloeplgacGreatDoorPk26
import Derived.Deep.DeepCutAuto
import Derived.Deep.RegionLaw
import Derived.Deep.RegionHeld3
/- The document's own answer, walked: PartOf, behind the value's word. -/
namespace Go.Proofs.YtjpenioloeplgacGreatDoor
open Go.RowKit

theorem list_back (y : ByteArray) : (⟨y.data.toList.toArray⟩ : ByteArray) = y := by cases y; simp
/-- HexOf, below a bound -/
theorem hex_lt (b : UInt8) : -1 ≤ Ch.hex b.toNat ∧ Ch.hex b.toNat ≤ 15 := Ch.hex_range _ (by omega) (by have := b.toNat_lt; omega)
/-- what the loop keeps, the part beside it -/
structure DpRel (wc : World) (l : List UInt8) (i : Nat) (ao : Option Addr) (cap n : Nat) (wr : World) : Prop where
  own : ∃ bs, OwnB wr wc.heap.size 5 ao cap bs ∧ n = bs.length ∧ n ≤ i ∧ Fm.dec (l.drop 7) = Fm.decs bs (l.drop i)
  below : Below wc.heap.size wc wr
theorem DpRel.more {w wr w2 w3 : World} {l bs : List UInt8} {c : UInt8} {ao ao3 : Option Addr} {cap cap3 n i : Nat} {ob : Obj} (hB : Below w.heap.size w wr) (hO : OwnB wr w.heap.size 5 ao cap bs) (hb2 : Below wr.heap.size wr w2) (hO3 : OwnB w3 w.heap.size 5 ao3 cap3 (bs ++ [c])) (hG3 : (w2.alloc ob).grownBy w3 (blockOf ao)) (hn : n = bs.length) (hi : n + 1 ≤ i) (hd : Fm.dec (l.drop 7) = Fm.decs (bs ++ [c]) (l.drop i)) : DpRel w l i ao3 cap3 (n + 1) w3 := by
  have hB2 := then_ hB hb2
  refine ⟨⟨bs ++ [c], hO3, by rw [List.length_append, hn]; rfl, hi, hd⟩, (hB2.alloc hB2.size ob).grown hG3 (by rw [World.size_alloc]; have := hB2.size; omega) (fun k e => ?_)⟩
  cases ao with
  | none => simp [blockOf] at e
  | some a => simp [blockOf] at e; have := (hO.block a rfl).1; omega

set_option maxRecDepth 100000 in
set_option maxHeartbeats 8000000 in
theorem partOf_main (l : List (ByteArray × ByteArray)) (ao : Option Addr) (cap n : Nat) (w : World) (hl : IsV w ao cap n (pairV l)) (hn : l.length = n) (hN : n ≤ 1000) (hz : ∀ p ∈ l, p.1.size ≤ 2000 ∧ p.2.size ≤ 2000) (xs : List Pm.Par) (hd : Fm.disp (Fd.one (Fd.vals rDispo l)) = .inr xs) :
    Calls Tryz.prog 73 #[.slice ao n cap] w fun e w' => e = .returned (Fm.partV (Fm.partOf xs (Fd.one (Fd.vals rType l)))) ∧ Below w.heap.size w w' := by
  have hR0 : ResP w (w.alloc (.cells #[.string ⟨#[]⟩, .string ⟨#[]⟩, .string ⟨#[]⟩, .slice none 0 0] 30)) := ⟨heap_alloc_new w _, (Below.refl _ _).alloc (Nat.le_refl _) _⟩
  have HO := Hid.mk' (oneOf_any l rDispo ao cap n _ (hl.stay hR0.below) hn (by omega) (fun p hp => (hz p hp).1) (by decide))
  have hd2 := one_short (vs := Fd.vals rDispo l) (fun v hv => by obtain ⟨p, hp, rfl⟩ := Fd.vals_mem hv; exact (hz p hp).2)
  have HV : Hid (∀ W, Below w.heap.size w W → Calls Tryz.prog 24 #[.slice ao n cap, .string rType] W fun e w' => ∃ ao' cap', e = .returned (.slice ao' (Fd.vals rType l).length cap') ∧ OwnV w' W.heap.size 9 1 ao' cap' (Fd.vals rType l).length (strV (Fd.vals rType l)) ∧ Below W.heap.size W w') := fun W hW =>
    valuesOf_any l rType ao cap n W (hl.stay hW) hn (by omega) (fun p hp => (hz p hp).1) (by decide)
  have HR0 := Hid.mk' hR0
  unfold txVal at HO
  have hfew := Fm.disp_few hd
  clear hl hz hR0
  generalize Fd.one (Fd.vals rDispo l) = d at *
  generalize Fd.vals rType l = vs at *
  unfold rDispo at HO
  unfold rType at HV
  obtain ⟨h0, x, hm, hx, rfl⟩ : d.2 = 0 ∧ ∃ x, Pm.media d.1 = .inr x ∧ x.1 = Fm.nForm ∧ x.2 = xs := by
    unfold Fm.disp at hd
    split at hd
    · cases hd
    · rename_i h0
      split at hd
      · cases hd
      · rename_i x hm
        split at hd
        · cases hd
        · rename_i hx
          injection hd with hd
          exact ⟨by simpa using h0, x, hm, by simpa using hx, hd⟩
  have t0 : ((d.2 : Int) != 0) = false := by rw [h0]; rfl
  have HPs := Hid.mk' (fun W => mediaOf_any ⟨d.1.toArray⟩ W (by show d.1.toArray.size ≤ _; rw [List.size_toArray]; omega))
  have hdt : (⟨d.1.toArray⟩ : ByteArray).data.toList = d.1 := rfl
  rw [hdt, hm] at HPs
  generalize (⟨d.1.toArray⟩ : ByteArray) = vt at *
  clear hdt hm h0 hd
  go_enter Tryz.func73, Tryz.ntmps73
  go_wp2_with fail
  refine HO.out.mono ?_
  rintro e w1 ⟨rfl, hb1⟩
  have HR1 := Hid.mk' (HR0.out.stay hb1)
  clear hb1 HO HR0
  go_wp2_with fail
  refine (HPs.out w1).mono ?_
  rintro e w2 ⟨word, ps, ao2, cap2, code, rfl, ⟨rfl, hwd, hps⟩, hO2, hb2⟩
  obtain ⟨x1, x2⟩ := x
  have hwd : word.data.toList = x1 := hwd
  have hps : parL ps = x2 := hps
  have hx : x1 = Fm.nForm := hx
  subst hps
  obtain ⟨n2, hn2⟩ : ∃ n2, ps.length = n2 := ⟨_, rfl⟩
  rw [hn2] at hO2
  rw [hn2]
  have hn8 : n2 ≤ 8 := by rw [← hn2, ← parL_length]; exact hfew.1
  have hvz : ∀ p ∈ ps, p.2.size ≤ 2000 := fun p hp => by
    have := hfew.2 (p.1.data.toList, p.2.data.toList) (List.mem_map.2 ⟨p, hp, rfl⟩)
    have h2 : p.2.data.toList.length ≤ d.1.length := this
    rw [Ch.len_list] at h2; omega
  have tw : (word.toList == [102, 111, 114, 109, 45, 100, 97, 116, 97]) = true := by
    rw [beq_iff_eq, Lib.toList_data, hwd, hx]; rfl
  have hbM : Below w2.heap.size w2 (w2.alloc (.cells #[.string word, .slice ao2 n2 cap2] 163)) := (Below.refl _ _).alloc (Nat.le_refl _) _
  have hR2 := (HR1.out.stay hb2).stay hbM
  have hM2 := heap_alloc_new w2 (.cells #[.string word, .slice ao2 n2 cap2] 163)
  have hV2 := hO2.isV.stay hbM
  have hfar : w.heap.size < w2.heap.size := (Array.getElem?_eq_some_iff.1 (HR1.out.stay hb2).row).1
  have hblk : ∀ a, ao2 = some a → a.block < w2.heap.size := fun a e => (hO2.block a e).2
  have HGn : Hid (Calls Tryz.prog 108 #[.agg #[.string word, .slice ao2 n2 cap2], .string ⟨#[110, 97, 109, 101]⟩] (w2.alloc (.cells #[.string word, .slice ao2 n2 cap2] 163)) fun e w' => ∃ (y : ByteArray) (b : Bool), e = .returned (.tuple #[.string y, .bool b]) ∧ (if b = true then Fm.get Fm.nName (parL ps) = some y.data.toList else Fm.get Fm.nName (parL ps) = none) ∧ Below (w2.alloc (.cells #[.string word, .slice ao2 n2 cap2] 163)).heap.size (w2.alloc (.cells #[.string word, .slice ao2 n2 cap2] 163)) w') := by
    refine (paramOf_any word ps ⟨#[110, 97, 109, 101]⟩ ao2 cap2 n2 _ hV2 hn2 (by omega)).mono ?_
    rintro e w' ⟨rfl, hb⟩
    cases hg : Pm_get ⟨#[110, 97, 109, 101]⟩ ps with
    | none => exact ⟨_, false, rfl, get_no hg, hb⟩
    | some x => exact ⟨_, true, rfl, (get_yes hg).1, hb⟩
  have HR2 := Hid.mk' hR2; have HM2 := Hid.mk' hM2; have HV2 := Hid.mk' hV2; have HVz := Hid.mk' hvz; have HFar := Hid.mk' hfar; have HBlk := Hid.mk' hblk; have HN2 := Hid.mk' hn2
  clear hb2 hO2 hn2 hvz hbM hR2 hM2 hV2 hfew hwd hx hfar hblk HPs HR1
  generalize hW2 : (w2.alloc (.cells #[.string word, .slice ao2 n2 cap2] 163)) = W2 at *
  have m0 : W2.cell? ⟨w2.heap.size, 0, none⟩ = some (.string word) := cell_of_row W2 _ 0 _ _ _ HM2.out
  have m1 : W2.cell? ⟨w2.heap.size, 1, none⟩ = some (.slice ao2 n2 cap2) := cell_of_row W2 _ 1 _ _ _ HM2.out
  have HL2 : Hid (w2.heap.size < W2.heap.size) := (Array.getElem?_eq_some_iff.1 HM2.out).1
  go_wp2_with fail
  refine HGn.out.mono ?_
  rintro e w3 ⟨nm, b, rfl, hgn, hb3⟩
  clear hW2
  cases b
  case false =>
    have hgn : Fm.get Fm.nName (parL ps) = none := hgn
    have HP : Hid (Fm.partOf (parL ps) (Fd.one vs) = .inl 6) := by unfold Hid Fm.partOf; rw [hgn]
    have hR3 := HR2.out.stay hb3
    obtain ⟨c0, c1, c2, c3, f0, f1, f2, f3⟩ := hR3.cells
    have HR3 := Hid.mk' hR3
    clear hgn hb3 hR3 HGn m0 m1
    go_wp2
    refine bodyPost_ret (v := .tuple #[.agg #[.string ⟨#[]⟩, .string ⟨#[]⟩, .string ⟨#[]⟩, .slice none 0 0], .int .i64 6]) (by simp [results, Tryz.results73, go_sem, c0, c1, c2, c3]) rfl ⟨by rw [HP.out]; rfl, ?_⟩
    first | exact HR3.out.below | exact below4 HR3.out.below _ _ _ _
  case true =>
    have hgn : Fm.get Fm.nName (parL ps) = some nm.data.toList := hgn
    have HGN := Hid.mk' hgn
    have hP0 : PoAt w w2.heap.size w3.heap.size word nm ⟨#[]⟩ ⟨#[]⟩ ao2 n2 cap2 ps (w3.alloc (.cells #[.string nm, .string ⟨#[]⟩, .string ⟨#[]⟩, .slice none 0 0] 30)) := by
      have hbP : Below w3.heap.size w3 (w3.alloc (.cells #[.string nm, .string ⟨#[]⟩, .string ⟨#[]⟩, .slice none 0 0] 30)) := (Below.refl _ _).alloc (Nat.le_refl _) _
      have hz3 := hb3.size
      have h2 := HL2.out
      exact ⟨row_stay (row_stay HR2.out.row hb3) hbP, row_stay (row_stay HM2.out hb3) hbP, heap_alloc_new w3 _, (HV2.out.stay hb3).stay hbP, ⟨HFar.out, by omega, fun a e => by have := HBlk.out a e; omega⟩, then_ (then_ HR2.out.below hb3) hbP⟩
    have HP0 := Hid.mk' hP0
    clear hgn hb3 hP0 HGn m0 m1 HR2 HM2 HV2 HFar HBlk HL2
    go_upto_region 13 with fail
    generalize hW4 : (w3.alloc (.cells #[.string nm, .string ⟨#[]⟩, .string ⟨#[]⟩, .slice none 0 0] 30)) = W4 at *
    clear hW4
    generalize w3.heap.size = gp at *
    generalize w2.heap.size = gm at *
    have HGf := Hid.mk' (HP0.out.get HN2.out (by omega) HVz.out ⟨#[102, 105, 108, 101, 110, 97, 109, 101]⟩)
    obtain ⟨m0, m1⟩ := HP0.out.c
    go_wp2_with fail
    refine HGf.out.mono ?_
    rintro e w5 ⟨y, b, rfl, hgf, hb5⟩
    have HP5 := Hid.mk' (HP0.out.stay hb5)
    have HGF := Hid.mk' hgf
    clear hb5 hgf HGf HP0 m0 m1
    go_upto_if 54 with fail
    go_cut [] (fun wd => ∃ f1 : ByteArray, (if b = true then f1 = ⟨(Fm.safe y.data.toList).toArray⟩ else f1 = ⟨#[]⟩) ∧ PoAt w gm gp word nm f1 ⟨#[]⟩ ao2 n2 cap2 ps wd)
    case first =>
      cases b
      · go_wp2
        go_meet
        exact ⟨_, rfl, HP5.out⟩
      · have hyz : y.size ≤ 2000 := HGF.out.2
        have HSn := Hid.mk' (safeName_any y w5 (by omega))
        obtain ⟨p0, p1, p2, p3, pz⟩ := HP5.out.p
        have pz1 := pz 1
        clear pz
        go_wp2_with fail
        refine HSn.out.mono ?_
        rintro e w6 ⟨rfl, hw⟩
        subst hw
        go_wp2
        go_meet
        exact ⟨_, rfl, HP5.out.file _⟩
    case rest =>
      obtain ⟨f1, hf1, hP6⟩ := hcut
      clear HP5
      have HP6 := Hid.mk' hP6
      have HF1 : Hid ((match Fm.get Fm.nFname (parL ps) with | some x => some (Fm.safe x) | none => some []) = some f1.data.toList) := by
        unfold Hid
        cases b
        · have h1 : Fm.get Fm.nFname (parL ps) = none := HGF.out
          have h2 : f1 = ⟨#[]⟩ := hf1
          rw [h1, h2]
        · have h1 : Fm.get Fm.nFname (parL ps) = some y.data.toList := HGF.out.1
          have h2 : f1 = ⟨(Fm.safe y.data.toList).toArray⟩ := hf1
          rw [h1, h2]
      clear hP6 hf1 HGF
      have HGs := Hid.mk' (HP6.out.get HN2.out (by omega) HVz.out ⟨#[102, 105, 108, 101, 110, 97, 109, 101, 42]⟩)
      obtain ⟨m0, m1⟩ := HP6.out.c
      go_wp2_with fail
      refine HGs.out.mono ?_
      rintro e w7 ⟨z, b2, rfl, hgs, hb7⟩
      have HP7 := Hid.mk' (HP6.out.stay hb7)
      have HGS := Hid.mk' hgs
      clear hb7 hgs HGs HP6 m0 m1
      obtain ⟨i0, hi0, hz0, hz1, hz2⟩ := info_parts info_u8
      have Hi := Hid.mk' hi0; have Hz0 := Hid.mk' hz0; have Hz1 := Hid.mk' hz1; have Hz2 := Hid.mk' hz2
      clear hi0 hz0 hz1 hz2
      go_upto_if 63 with fail
      go_cut [14, 15] (fun _ _ wd => ∃ f2 : ByteArray, Fm.file (parL ps) = some f2.data.toList ∧ PoAt w gm gp word nm f2 ⟨#[]⟩ ao2 n2 cap2 ps wd)
      case first =>
        have hlz := Ch.len_list z
        cases b2
        · have hg0 : Fm.get Fm.nFstar (parL ps) = none := HGS.out
          have HFi : Hid (Fm.file (parL ps) = some f1.data.toList) := by unfold Hid Fm.file; rw [hg0]; exact HF1.out
          clear hg0 HGS HF1 hlz
          go_wp2
          go_meet
          exact ⟨_, HFi.out, HP7.out⟩
        · have hg1 : Fm.get Fm.nFstar (parL ps) = some z.data.toList := HGS.out.1
          have hzz : z.size ≤ 2000 := HGS.out.2
          have HFi : Hid (Fm.file (parL ps) = (Fm.coded z.data.toList).map Fm.safe) := by unfold Hid Fm.file; rw [hg1]
          have HBad : Hid (Fm.coded z.data.toList = none → Fm.partOf (parL ps) (Fd.one vs) = .inl 5) := fun hc => by
            have hfi := HFi.out
            rw [hc] at hfi
            unfold Fm.partOf; rw [HGN.out, hfi]; rfl
          clear hg1 HGS HF1
          obtain ⟨c0, c1, c2, c3, f0, f1', f2, f3⟩ := HP7.out.r.cells
          by_cases h7 : z.size < 7
          · have HE : Hid (Fm.partOf (parL ps) (Fd.one vs) = .inl 5) := HBad.out (by unfold Fm.coded; rw [if_pos (Or.inl (by rw [hlz]; exact h7))])
            have t7 : decide ((z.size : Int) < 7) = true := decide_eq_true (by omega)
            clear HBad
            go_wp2
            refine bodyPost_ret (v := .tuple #[.agg #[.string ⟨#[]⟩, .string ⟨#[]⟩, .string ⟨#[]⟩, .slice none 0 0], .int .i64 5]) (by simp [results, Tryz.results73, go_sem, c0, c1, c2, c3]) rfl ⟨by rw [HE.out]; rfl, ?_⟩
            first | exact HP7.out.below | exact below4 HP7.out.below _ _ _ _
          · have t7 : decide ((z.size : Int) < 7) = false := decide_eq_false (by omega)
            have h7' : (7 : Int) ≤ z.size := by omega
            have hx7 : (z.extract 0 7).data.toList = z.data.toList.take 7 := firstB z 7
            have hxs : (z.extract 0 7).size = 7 := by rw [Ch.size_of_list hx7, List.length_take, hlz]; omega
            have HSm := Hid.mk' (small_any (z.extract 0 7) w7 (by rw [hxs]; omega))
            rw [hx7] at HSm
            by_cases hu : Ch.lower (z.data.toList.take 7) = Fm.nUtf
            · have HC : Hid (Fm.coded z.data.toList = Fm.dec (z.data.toList.drop 7)) := by unfold Hid Fm.coded; rw [if_neg (fun e => by rcases e with e | e; rw [hlz] at e; exact h7 e; exact e hu)]
              have tu : ((⟨(Ch.lower (z.data.toList.take 7)).toArray⟩ : ByteArray).toList == [117, 116, 102, 45, 56, 39, 39]) = true := by
                rw [beq_iff_eq, Lib.toList_data]; exact hu
              generalize (⟨(Ch.lower (z.data.toList.take 7)).toArray⟩ : ByteArray) = lo at *
              clear hu hx7 hxs
              go_wp2_with fail
              refine HSm.out.mono ?_
              rintro e w8 ⟨rfl, q8, hw⟩
              have HP8 : Hid (PoAt w gm gp word nm f1 ⟨#[]⟩ ao2 n2 cap2 ps w8) := HP7.out.stay (drewN_below ⟨q8, hw⟩)
              clear hw HSm HP7 c0 c1 c2 c3 f0 f1' f2 f3
              go_wp2
              go_loopw [14, 15] (fun vb vi wr => ∃ (i k : Nat) (ro : Option Addr) (rc : Nat), 7 ≤ i ∧ i ≤ z.size ∧ vi = .int .i64 i ∧ vb = .slice ro k rc ∧ DpRel w8 z.data.toList i ro rc k wr) (fun _ vi _ => z.size - (intOf vi).toNat)
              case atStart => exact ⟨7, 0, none, 0, Nat.le_refl _, by omega, rfl, rfl, ⟨⟨[], OwnB.nil _ _ _, rfl, by omega, (Fm.decs_start _).symm⟩, Below.refl _ _⟩⟩
              case round =>
                obtain ⟨i, k, ro, rc, hi7, his, rfl, rfl, hR⟩ := hrel
                obtain ⟨⟨bs, hO, hk, hki, hdc⟩, hB⟩ := hR
                have HO := Hid.mk' hO; have HK := Hid.mk' hk; have HD := Hid.mk' hdc; have HB := Hid.mk' hB
                have HPr := Hid.mk' (HP8.out.stay hB)
                clear hO hk hdc hB
                by_cases hlt : i < z.size
                · have hlt' : (i : Int) < z.size := by omega
                  have hdr : z.data.toList.drop i = z[i] :: z.data.toList.drop (i + 1) := by rw [List.drop_eq_getElem_cons (by rw [hlz]; exact hlt), byte_at z i hlt]
                  by_cases h37 : z[i] = 37
                  · have t37 : ((z[i].toNat : Int) != 37) = false := by rw [h37]; rfl
                    by_cases hsh : z.size ≤ i + 2
                    · have tsh : decide ((i : Int) + 2 ≥ z.size) = true := decide_eq_true (by omega)
                      have HE : Hid (Fm.partOf (parL ps) (Fd.one vs) = .inl 5) := HBad.out (by rw [HC.out, HD.out, hdr, h37, Fm.decs_short (by rw [List.length_drop, hlz]; omega)])
                      obtain ⟨c0, c1, c2, c3, f0, f1', f2, f3⟩ := HPr.out.r.cells
                      clear HD hdr h37 HBad
                      go_wp2
                      refine bodyPost_ret (v := .tuple #[.agg #[.string ⟨#[]⟩, .string ⟨#[]⟩, .string ⟨#[]⟩, .slice none 0 0], .int .i64 5]) (by simp [results, Tryz.results73, go_sem, c0, c1, c2, c3]) rfl ⟨by rw [HE.out]; rfl, ?_⟩
                      first | exact HPr.out.below | exact below4 HPr.out.below _ _ _ _
                    · have tsh : decide ((i : Int) + 2 ≥ z.size) = false := decide_eq_false (by omega)
                      have hd2 := (twoB z i (by omega)).2
                      rw [h37] at hd2
                      rw [hd2] at HD
                      have i1 : (i : Int) + 1 < z.size := by omega
                      have i2 : (i : Int) + 2 < z.size := by omega
                      have i1n : i + 1 < z.size := by omega
                      have i2n : i + 2 < z.size := by omega
                      have e1 : ((i : Int) + 1).toNat = i + 1 := by omega
                      have e2 : ((i : Int) + 2).toNat = i + 2 := by omega
                      have HXa : Hid (∀ W, Calls Tryz.prog 61 #[.int .u8 (z[i + 1].toNat : Int)] W fun e w' => e = .returned (.int .i64 (Ch.hex (z[i + 1].toNat : Int))) ∧ Below W.heap.size W w') := fun W => hexOf_any z[i + 1] W
                      have HXb : Hid (∀ W, Calls Tryz.prog 61 #[.int .u8 (z[i + 2].toNat : Int)] W fun e w' => e = .returned (.int .i64 (Ch.hex (z[i + 2].toNat : Int))) ∧ Below W.heap.size W w') := fun W => hexOf_any z[i + 2] W
                      have hra := hex_lt z[i + 1]
                      have hrb := hex_lt z[i + 2]
                      have HBd : Hid (¬ (0 ≤ Ch.hex (z[i + 1].toNat : Int) ∧ 0 ≤ Ch.hex (z[i + 2].toNat : Int)) → Fm.partOf (parL ps) (Fd.one vs) = .inl 5) := fun hab => HBad.out (by rw [HC.out, HD.out, Fm.decs_bad hab])
                      have HBy : Hid (∀ (ha : 0 ≤ Ch.hex (z[i + 1].toNat : Int)) (hb : 0 ≤ Ch.hex (z[i + 2].toNat : Int)), ∃ cb : UInt8, (cb.toNat : Int) = 16 * Ch.hex (z[i + 1].toNat : Int) + Ch.hex (z[i + 2].toNat : Int) ∧ Fm.dec (z.data.toList.drop 7) = Fm.decs (bs ++ [cb]) (z.data.toList.drop (i + 3))) := fun ha hb =>
                        ⟨_, (Fm.byte_two ha hb).1, by rw [HD.out, Fm.decs_hex ha hb]⟩
                      generalize hAe : Ch.hex (z[i + 1].toNat : Int) = A at *
                      have HAe := Hid.mk' hAe
                      clear hAe
                      generalize hBe : Ch.hex (z[i + 2].toNat : Int) = B at *
                      have HBe := Hid.mk' hBe
                      clear hBe
                      clear hd2 hdr h37 HD HBad
                      by_cases hA : A < 0
                      · have tA : decide (A < 0) = true := decide_eq_true hA
                        have HE : Hid (Fm.partOf (parL ps) (Fd.one vs) = .inl 5) := HBd.out (by omega)
                        go_wp2_with fail
                        refine (HXa.out _).mono ?_
                        rintro e w9 ⟨rfl, hb9⟩
                        have HP9 := Hid.mk' (HPr.out.stay hb9)
                        obtain ⟨c0, c1, c2, c3, f0, f1', f2, f3⟩ := HP9.out.r.cells
                        clear hb9
                        go_wp2
                        refine bodyPost_ret (v := .tuple #[.agg #[.string ⟨#[]⟩, .string ⟨#[]⟩, .string ⟨#[]⟩, .slice none 0 0], .int .i64 5]) (by simp [results, Tryz.results73, go_sem, c0, c1, c2, c3]) rfl ⟨by rw [HE.out]; rfl, ?_⟩
                        first | exact HP9.out.below | exact below4 HP9.out.below _ _ _ _
                      · have tA : decide (A < 0) = false := decide_eq_false hA
                        by_cases hBn : B < 0
                        · have tB : decide (B < 0) = true := decide_eq_true hBn
                          have HE : Hid (Fm.partOf (parL ps) (Fd.one vs) = .inl 5) := HBd.out (by omega)
                          go_wp2_with fail
                          refine (HXa.out _).mono ?_
                          rintro e w9 ⟨rfl, hb9⟩
                          have HP9 := Hid.mk' (HPr.out.stay hb9)
                          clear hb9
                          go_wp2_with fail
                          refine (HXb.out _).mono ?_
                          rintro e w10 ⟨rfl, hb10⟩
                          have HP10 := Hid.mk' (HP9.out.stay hb10)
                          obtain ⟨c0, c1, c2, c3, f0, f1', f2, f3⟩ := HP10.out.r.cells
                          clear hb10
                          go_wp2
                          refine bodyPost_ret (v := .tuple #[.agg #[.string ⟨#[]⟩, .string ⟨#[]⟩, .string ⟨#[]⟩, .slice none 0 0], .int .i64 5]) (by simp [results, Tryz.results73, go_sem, c0, c1, c2, c3]) rfl ⟨by rw [HE.out]; rfl, ?_⟩
                          first | exact HP10.out.below | exact below4 HP10.out.below _ _ _ _
                        · have tB : decide (B < 0) = false := decide_eq_false hBn
                          obtain ⟨cb, hcb, hdd⟩ := HBy.out (by omega) (by omega)
                          have HDD := Hid.mk' hdd
                          have hcl := cb.toNat_lt
                          clear HBy HBd hdd
                          go_wp2_with fail
                          refine (HXa.out _).mono ?_
                          rintro e w9 ⟨rfl, hb9⟩
                          have HB9 := Hid.mk' hb9
                          clear hb9
                          go_wp2_with fail
                          refine (HXb.out _).mono ?_
                          rintro e w10 ⟨rfl, hb10⟩
                          have HB10 := Hid.mk' (then_ HB9.out hb10)
                          clear hb10 HB9
                          go_upto_region 28 with fail
                          go_cut [14] from 74 to 129 (fun v wd => ∃ (ao3 : Option Addr) (cap3 : Nat), v = .slice ao3 (k + 1 : Nat) cap3 ∧ DpRel w8 z.data.toList (i + 3) ao3 cap3 (k + 1) wd)
                          case first =>
                            have hw1 : IntKind.i64.wrap (16 * A) = 16 * A := wrap_id (by omega) (by omega)
                            have hw2 : IntKind.i64.wrap (16 * A + B) = (cb.toNat : Int) := by rw [wrap_id (by omega) (by omega)]; exact hcb.symm
                            have hwr : IntKind.u8.wrap (cb.toNat : Int) = cb.toNat := by rw [IntKind.wrap_u8]; omega
                            have hnc : k + 1 ≤ 140737488355328 := by omega
                            have b3 : IntKind.i64.wrap ((i : Int) + 1) = (i : Int) + 1 := wrap_id (by omega) (by omega)
                            have b4 : (0 : Int) ≤ (i : Int) + 1 := by omega
                            have b5 : IntKind.i64.wrap ((i : Int) + 2) = (i : Int) + 2 := wrap_id (by omega) (by omega)
                            have b6 : (0 : Int) ≤ (i : Int) + 2 := by omega
                            have b7 : (0 : Int) ≤ (i : Int) + 1 ∧ (i : Int) + 1 < z.size := ⟨b4, i1⟩
                            have b8 : (0 : Int) ≤ (i : Int) + 2 ∧ (i : Int) + 2 < z.size := ⟨b6, i2⟩
                            clear hcb hcl hra hrb tA tB hA hBn tsh t37 hsh b7 b8
                            have HX : Hid (∀ (b : UInt8) (W : World), Calls Tryz.prog 61 #[.int .u8 (b.toNat : Int)] W fun e w' => e = .returned (.int .i64 (Ch.hex (b.toNat : Int))) ∧ Below W.heap.size W w') := fun b W => hexOf_any b W
                            have hAe := HAe.out
                            have hBe := HBe.out
                            clear HXa HXb
                            have hbb : Below wr.heap.size wr w10.drew := HB10.out.trans (below_drew _ _)
                            go_region_held_law (fun _ => True) (trivial) (first
                              | (refine step_append_b (by rfl) (.tmp 112) (.tmp 126) 22 (by rfl) w8.heap.size 5 i0 Tryz.underlying22 Hi.out Hz0.out Hz1.out Hz2.out (l := bs) (l2 := [cb]) (by rfl) HK.out.symm ((HO.out.stay hby).alloc _) (by rfl) (by rfl) (IsB.one _ _ _ _) (by decide) (by omega) (by rw [World.size_alloc]; have := HB.out.size; have := hby.size; omega) ?_; intro ao3 cap3 w3 hO3 hG3; have HO3 := Hid.mk' hO3; have HG3 := Hid.mk' hG3; clear hO3 hG3; (try simp only [Act.put, List.getElem_toArray, List.getElem_cons_succ, List.getElem_cons_zero, List.setIfInBounds_toArray, List.set_cons_zero, List.set_cons_succ]))
                              | (go_at_call 61; refine (HX.out _ _).mono ?_; rintro e w11 ⟨rfl, hb11⟩; have hby := then_ (w := wr) (by assumption) hb11))
                            all_goals
                              go_wp2
                              go_meet
                              exact ⟨ao3, cap3, rfl, DpRel.more HB.out HO.out hby HO3.out HG3.out HK.out (by omega) HDD.out⟩
                          case rest =>
                            obtain ⟨ao3, cap3, rfl, hR3⟩ := hcut
                            have HR3 := Hid.mk' hR3
                            clear hR3
                            go_wp2
                            go_roundw
                            case rel => exact ⟨i + 3, k + 1, ao3, cap3, by omega, by omega, by go_num, rfl, HR3.out⟩
                            case measure => simp [intOf]; omega
                  · have t37 : ((z[i].toNat : Int) != 37) = true := by rw [bne_iff_ne]; intro e; exact h37 (UInt8.toNat_inj.1 (by show _ = 37; omega))
                    rw [hdr, Fm.decs_byte h37] at HD
                    go_wp2_with (at_builtin; refine wpList_append_b rfl (.tmp 84) (.tmp 88) 22 rfl w8.heap.size 5 i0 Tryz.underlying22 Hi.out Hz0.out Hz1.out Hz2.out (l := bs) (l2 := [z[i]]) rfl HK.out.symm (HO.out.alloc _) rfl rfl (IsB.one _ _ _ _) (by omega) (by rw [World.size_alloc]; have := HB.out.size; omega) ?_; intro ao3 cap3 w3 hO3 hG3; have HO3 := Hid.mk' hO3; have HG3 := Hid.mk' hG3; clear hO3 hG3)
                    go_roundw
                    case rel => exact ⟨i + 1, k + 1, ao3, cap3, by omega, by omega, by go_num, rfl, DpRel.more HB.out HO.out (Below.refl _ _) HO3.out HG3.out HK.out (by omega) HD.out⟩
                    case measure => simp [intOf]; omega
                · obtain rfl : i = z.size := by omega
                  have hcv := HO.out.isB.str (P := Tryz.prog) 22 9 5 Tryz.underlying22 Tryz.underlying5 Tryz.underlying9
                  rw [← HK.out] at hcv
                  have HR : Hid (Fm.file (parL ps) = some (Fm.safe bs)) := by
                    unfold Hid
                    rw [HFi.out, HC.out, HD.out, List.drop_eq_nil_of_le (by rw [hlz]; exact Nat.le_refl _), Fm.decs_nil]; rfl
                  have hbl : (⟨bs.toArray⟩ : ByteArray).data.toList = bs := rfl
                  have HSn := Hid.mk' (safeName_any ⟨bs.toArray⟩ wr (by show bs.toArray.size ≤ _; rw [List.size_toArray, ← HK.out]; omega))
                  rw [hbl] at HSn
                  obtain ⟨p0, p1, p2, p3, pz⟩ := HPr.out.p
                  have pz1 := pz 1
                  clear pz
                  go_wp2_with fail
                  refine HSn.out.mono ?_
                  rintro e w9 ⟨rfl, hw⟩
                  subst hw
                  go_wp2
                  go_meet
                  exact ⟨_, HR.out, HPr.out.file _⟩
            · have HE : Hid (Fm.partOf (parL ps) (Fd.one vs) = .inl 5) := HBad.out (by unfold Fm.coded; rw [if_pos (Or.inr hu)])
              have tu : ((⟨(Ch.lower (z.data.toList.take 7)).toArray⟩ : ByteArray).toList == [117, 116, 102, 45, 56, 39, 39]) = false := by
                rw [beq_eq_false_iff_ne, Lib.toList_data]; exact hu
              generalize (⟨(Ch.lower (z.data.toList.take 7)).toArray⟩ : ByteArray) = lo at *
              clear hu hx7 hxs HBad
              go_wp2_with fail
              refine HSm.out.mono ?_
              rintro e w8 ⟨rfl, q8, hw⟩
              have HP8 : Hid (PoAt w gm gp word nm f1 ⟨#[]⟩ ao2 n2 cap2 ps w8) := HP7.out.stay (drewN_below ⟨q8, hw⟩)
              clear hw HSm c0 c1 c2 c3 f0 f1' f2 f3 HP7
              obtain ⟨c0, c1, c2, c3, f0, f1', f2, f3⟩ := HP8.out.r.cells
              go_wp2
              refine bodyPost_ret (v := .tuple #[.agg #[.string ⟨#[]⟩, .string ⟨#[]⟩, .string ⟨#[]⟩, .slice none 0 0], .int .i64 5]) (by simp [results, Tryz.results73, go_sem, c0, c1, c2, c3]) rfl ⟨by rw [HE.out]; rfl, ?_⟩
              first | exact HP8.out.below | exact below4 HP8.out.below _ _ _ _
      case rest =>
        obtain ⟨f2, hf2, hP8⟩ := hcut
        have HP8 := Hid.mk' hP8
        have HPo : Hid (Fm.partOf (parL ps) (Fd.one vs) = if (Fd.one vs).2 = 9 then .inl 9 else .inr ⟨nm.data.toList, f2.data.toList, (Fd.one vs).1⟩) := by
          unfold Hid Fm.partOf; rw [HGN.out, hf2]
        clear hP8 hf2 HP7 HF1 HGS HGN
        have HVs := Hid.mk' (HV.out wc HP8.out.below)
        go_wp2_with fail
        refine HVs.out.mono ?_
        rintro e w9 ⟨va, vc, rfl, hO9, hb9⟩
        have HP9 := Hid.mk' (HP8.out.stay hb9)
        have HO9 := Hid.mk' hO9
        clear hO9 hb9 HVs HP8 HV
        obtain ⟨c0, c1, c2, c3, f0, f1, f2', f3⟩ := HP9.out.r.cells
        obtain hvs | ⟨v, hvs⟩ | ⟨v, v2, r, hvs⟩ : vs = [] ∨ (∃ v, vs = [v]) ∨ ∃ v v2 r, vs = v :: v2 :: r := by
          match vs with
          | [] => exact Or.inl rfl
          | [v] => exact Or.inr (Or.inl ⟨v, rfl⟩)
          | v :: v2 :: r => exact Or.inr (Or.inr ⟨v, v2, r, rfl⟩)
        · have HPo : Hid (Fm.partOf (parL ps) (Fd.one vs) = .inr ⟨nm.data.toList, f2.data.toList, []⟩) := by have := HPo.out; rw [hvs] at this ⊢; exact this
          have hlen : vs.length = 0 := by rw [hvs]; rfl
          rw [hlen]
          clear HO9 hvs
          obtain ⟨p0, p1, p2, p3, pz⟩ := HP9.out.p
          clear pz
          go_wp2
          refine bodyPost_ret (v := .tuple #[.agg #[.string nm, .string f2, .string ⟨#[]⟩, .slice none 0 0], .int .i64 0]) (by simp [results, Tryz.results73, go_sem, c0, c1, c2, c3]) rfl ⟨by rw [HPo.out]; rfl, ?_⟩
          exact below4 HP9.out.below _ _ _ _
        · have HPo : Hid (Fm.partOf (parL ps) (Fd.one vs) = .inr ⟨nm.data.toList, f2.data.toList, v.data.toList⟩) := by have := HPo.out; rw [hvs] at this ⊢; exact this
          have hlen : vs.length = 1 := by rw [hvs]; rfl
          rw [hlen]
          rw [hlen, hvs] at HO9
          clear hvs
          obtain ⟨vb, vo, rfl, _⟩ := HO9.out.isV.lit (by rw [strV_length]; exact Nat.lt_succ_self 0)
          have cv : w9.cell? ⟨vb, vo, none⟩ = some (.string v) := by
            have := HO9.out.isV.cell (strV_at [v] 0 (Nat.lt_succ_self 0))
            rw [Addr.add_lit] at this
            exact this
          have hcv := HO9.out.isV.1
          have hcv : 1 ≤ vc := hcv
          obtain ⟨p0, p1, p2, p3, pz⟩ := HP9.out.p
          have pz2 := pz 2
          clear pz
          go_upto_region 36 with fail
          have HP10 := Hid.mk' (HP9.out.type v)
          clear cv p0 p1 p2 p3 pz2 c0 c1 c2 c3 f0 f1 f2' f3 HP9
          generalize (w9.setCell ⟨gp, 2, none⟩ (.string v)) = w10 at *
          obtain ⟨p0, p1, p2, p3, pz⟩ := HP10.out.p
          obtain ⟨c0, c1, c2, c3, f0, f1, f2', f3⟩ := HP10.out.r.cells
          clear pz
          go_wp2
          refine bodyPost_ret (v := .tuple #[.agg #[.string nm, .string f2, .string v, .slice none 0 0], .int .i64 0]) (by simp [results, Tryz.results73, go_sem, c0, c1, c2, c3]) rfl ⟨by rw [HPo.out]; rfl, ?_⟩
          exact below4 HP10.out.below _ _ _ _
        · have HPo : Hid (Fm.partOf (parL ps) (Fd.one vs) = .inl 9) := by have := HPo.out; rw [hvs] at this ⊢; exact this
          obtain ⟨vn, hvn⟩ : ∃ vn, vs.length = vn := ⟨_, rfl⟩
          have hv2 : 2 ≤ vn := by rw [← hvn, hvs]; simp
          clear hvs
          rw [hvn]
          have tl : decide ((vn : Int) > 1) = true := decide_eq_true (by omega)
          clear HO9 hvn
          go_wp2
          refine bodyPost_ret (v := .tuple #[.agg #[.string ⟨#[]⟩, .string ⟨#[]⟩, .string ⟨#[]⟩, .slice none 0 0], .int .i64 9]) (by simp [results, Tryz.results73, go_sem, c0, c1, c2, c3]) rfl ⟨by rw [HPo.out]; rfl, ?_⟩
          first | exact HP9.out.below | exact below4 HP9.out.below _ _ _ _

/-- PartOf, by plain fields -/
theorem partOf_any (l : List (ByteArray × ByteArray)) (ao : Option Addr) (cap n : Nat) (w : World) (hl : IsV w ao cap n (pairV l)) (hn : l.length = n) (hN : n ≤ 1000) (hz : ∀ p ∈ l, p.1.size ≤ 2000 ∧ p.2.size ≤ 2000) :
    Calls Tryz.prog 73 #[.slice ao n cap] w fun e w' => e = .returned (Fm.partV (Fm.part (Rq.flB l))) ∧ Below w.heap.size w w' := by
  have hp : Fm.part (Rq.flB l) = Fm.partBy (Fd.one (Fd.vals rDispo l)) (Fd.one (Fd.vals rType l)) := by rw [rDispo_is, rType_is]; rfl
  rw [hp, Fm.partBy_disp]
  cases hd : Fm.disp (Fd.one (Fd.vals rDispo l)) with
  | inl c => exact partOf_early l ao cap n w hl hn hN hz c hd
  | inr xs => exact partOf_main l ao cap n w hl hn hN hz xs hd
end Go.Proofs.YtjpenioloeplgacGreatDoor

/- The document's own answer for forms: what the walk of FormOf keeps. -/
namespace Go.Proofs.YtjpenioloeplgacGreatDoor
open Go.RowKit

/-- what is answered -/
def FoOut (w : World) (m b : List UInt8) (e : Ending) (w' : World) : Prop := ∃ a2 c2, e = .returned (.tuple #[.slice a2 (Fm.of m b).1.length c2, .int .i64 ((Fm.of m b).2 : Int)]) ∧ WantIn w' (w.heap.size + 1) 32 a2 c2 (Fm.of m b).1 ∧ Below w.heap.size w w'
/-- what is answered from within -/
def FoRet (w : World) (m b : List UInt8) (Q0 : Exit → Act → World → Prop) : Prop :=
  ∀ (tm : Array Value) (a2 : Option Addr) (c2 n : Nat) (k : Int) (w' : World), tm[4]? = some (.slice a2 n c2) → tm[5]? = some (.int .i64 k) → FoOut w m b (.returned (.tuple #[.slice a2 n c2, .int .i64 k])) w' → Q0 .ret ⟨tm, []⟩ w'
theorem FoOut.of {w : World} {m b : List UInt8} {es : List EvD} {k : Nat} (hof : Fm.of m b = (es, k)) {a2 : Option Addr} {c2 n : Nat} {w' : World} (hn : n = es.length) (hw : WantIn w' (w.heap.size + 1) 32 a2 c2 es) (hB : Below w.heap.size w w') : FoOut w m b (.returned (.tuple #[.slice a2 n c2, .int .i64 (k : Int)])) w' := by
  refine ⟨a2, c2, ?_, by rw [hof]; exact hw, hB⟩
  rw [hof, hn]
/-- what was told, and the bytes -/
structure FoSt (w : World) (x : List UInt8) (xb xcap : Nat) (ao : Option Addr) (ca n : Nat) (es : List EvD) (W : World) : Prop where
  rs : FoAt w ao ca n es W
  xs : IsBS W (fun k => w.heap.size + 1 ≤ k ∧ blockOf ao ≠ some k) (some ⟨xb, 0, none⟩) xcap x
theorem FoSt.stay {w W W' : World} {x : List UInt8} {xb xcap : Nat} {ao : Option Addr} {ca n : Nat} {es : List EvD} (h : FoSt w x xb xcap ao ca n es W) (hb : Below W.heap.size W W') : FoSt w x xb xcap ao ca n es W' :=
  ⟨h.rs.stay hb, h.xs.turns (Turns.of_below (S := fun _ => False) hb) (fun _ _ e => e)⟩
/-- what the loop over parts keeps -/
structure F1Rel (w : World) (m b x : List UInt8) (xb xcap p parts : Nat) (ao : Option Addr) (ca n : Nat) (es : List EvD) (f : Nat) (W : World) : Prop where
  st : FoSt w x xb xcap ao ca n es W
  few : n ≤ 3 * parts
  parts_ : parts ≤ 12
  f_ : x.length < p + f + 1
  of_ : Fm.of m b = (es ++ (Fm.ofM m (f + 1) parts (x.drop p)).1, (Fm.ofM m (f + 1) parts (x.drop p)).2)
/-- fields that grow -/
structure FfAt (wH : World) (fs : List Rq.Fl) (fo : Option Addr) (fcap nf : Nat) (W : World) : Prop where
  row : OwnV W wH.heap.size 51 2 fo fcap nf (pairV (Rq.flT fs))
  len : nf = fs.length
  few : nf ≤ 16
  good : ∀ y ∈ fs, y.1.length ≤ 200 ∧ y.2.length ≤ 200
  below : Below wH.heap.size wH W
theorem FfAt.start (w : World) : FfAt w [] none 0 0 w := ⟨OwnV.nil _ _ _ _, rfl, Nat.zero_le _, (fun y hy => by cases hy), Below.refl _ _⟩
/-- a field more, its cells in a block just made -/
theorem FfAt.more {wH W W3 w4 : World} {fs : List Rq.Fl} {fo a4 : Option Addr} {fcap nf c4 : Nat} {nm vl : ByteArray} (h : FfAt wH fs fo fcap nf W) (hb : Below W.heap.size W W3) (hO : OwnV w4 wH.heap.size 51 2 a4 c4 (nf + 1) (pairV (Rq.flT fs) ++ [.string nm, .string vl])) (hG : W3.grownBy w4 (blockOf fo)) (h16 : nf ≠ 16) (hn : nm.data.toList.length ≤ 200) (hv : vl.data.toList.length ≤ 200) :
    FfAt wH (fs ++ [(nm.data.toList, vl.data.toList)]) a4 c4 (nf + 1) w4 := by
  have hfew := h.few
  refine ⟨?_, by rw [List.length_append, h.len]; rfl, by omega, fun y hy => ?_, ?_⟩
  · have e1 : pairV (Rq.flT (fs ++ [(nm.data.toList, vl.data.toList)])) = pairV (Rq.flT fs) ++ [.string nm, .string vl] := by
      rw [Rq.flT_append, pairV_append]; rfl
    rw [e1]; exact hO
  · rcases List.mem_append.1 hy with hy | hy
    · exact h.good y hy
    · rw [List.mem_singleton.1 hy]; exact ⟨hn, hv⟩
  · refine (then_ h.below hb).grown hG (then_ h.below hb).size (fun k e => ?_)
    cases fo with
    | none => cases e
    | some a => injection e with e; subst e; exact (h.row.block a rfl).1
/-- what was told stays while fields grow -/
theorem FoSt.grown {w wH W W3 w4 : World} {x : List UInt8} {xb xcap : Nat} {ao : Option Addr} {ca n : Nat} {es : List EvD} {fs : List Rq.Fl} {fo : Option Addr} {fcap nf : Nat} (hf : FfAt wH fs fo fcap nf W) (hb : Below W.heap.size W W3) (hG : W3.grownBy w4 (blockOf fo)) (h0 : FoSt w x xb xcap ao ca n es wH) : FoSt w x xb xcap ao ca n es w4 :=
  h0.stay ((then_ hf.below hb).grown hG (then_ hf.below hb).size (fun k e => by
    cases fo with
    | none => cases e
    | some a => injection e with e; subst e; exact (hf.row.block a rfl).1))
/-- what the loop over fields keeps -/
structure F2Rel (w wH : World) (m b x : List UInt8) (xb xcap q : Nat) (ao : Option Addr) (ca n : Nat) (es : List EvD) (f parts f2 : Nat) (fs : List Rq.Fl) (fo : Option Addr) (fcap nf : Nat) (W : World) : Prop where
  st : FoSt w x xb xcap ao ca n es W
  ff : FfAt wH fs fo fcap nf W
  f_ : x.length < q + f2 + 1
  of_ : Fm.of m b = (es ++ (Fm.ofH m f parts (Rq.flds (f2 + 1) (x.drop q) fs)).1, (Fm.ofH m f parts (Rq.flds (f2 + 1) (x.drop q) fs)).2)
/-- where FindFirst finds it -/
theorem findIs_of {m x : List UInt8} {r : Int} (hm : m ≠ []) (h : FindIs m x r) : (Fm.find m x = none → r = -1) ∧ ∀ k, Fm.find m x = some k → r = (k : Int) := by
  obtain ⟨f1, f2⟩ := Fm.find_of (x := x) hm
  rcases h with ⟨h1, h2⟩ | ⟨k, h1, h2, h3⟩
  · refine ⟨fun _ => h1, fun k hk => ?_⟩
    exact absurd (f2 k hk).1 (h2 k)
  · refine ⟨fun hn => absurd h2 (f1 hn k), fun j hj => ?_⟩
    obtain ⟨g1, g2⟩ := f2 j hj
    rcases Nat.lt_trichotomy j k with e | e | e
    · exact absurd g1 (h3 j e)
    · rw [h1, e]
    · exact absurd h2 (g2 k e)
/-- a piece of a text, by the way to it -/
def foAt : List Nat → Code → Code
  | [], c => c
  | 0 :: p, .seq x _ => foAt p x
  | _ :: p, .seq _ y => foAt p y
  | _ :: p, .loop c => foAt p c
  | _ :: p, .block _ c => foAt p c
  | _ :: p, .scope c => foAt p c
  | 0 :: p, .cond _ x _ => foAt p x
  | _ :: p, .cond _ _ y => foAt p y
  | _, c => c
noncomputable def formLoop3 : Code := foAt [1, 1, 1, 1, 1, 1, 1, 1, 1, 1, 1, 0, 1, 1, 1, 1, 1, 1, 1, 1, 1, 1, 0, 1] (Tryz.f34.body.getD .skip)
noncomputable def formTail : Code := foAt [1, 1, 1, 1, 1, 1, 1, 1, 1, 1, 1, 0, 1, 1, 1, 1, 1, 1, 1, 1, 1, 1, 1] (Tryz.f34.body.getD .skip)
end Go.Proofs.YtjpenioloeplgacGreatDoor

/- The document's own answer for forms, walked: FormOf's loop over a part's fields. -/
namespace Go.Proofs.YtjpenioloeplgacGreatDoor
open Go.RowKit

set_option maxRecDepth 100000 in
set_option maxHeartbeats 8000000 in
theorem formLoop3_any (m b x : List UInt8) (ms : ByteArray) (w wH : World) (xb xcap xn q0 parts f n : Nat) (ao : Option Addr) (ca : Nat) (es : List EvD)
    (hxn : x.length = xn) (hx9 : xn ≤ 20000) (hn : n ≤ 1000) (hq0 : q0 ≤ xn) (hst : FoSt w x xb xcap ao ca n es wH)
    (hof : Fm.of m b = (es ++ (Fm.ofH m f parts (Rq.flds ((x.drop q0).length + 1) (x.drop q0) [])).1, (Fm.ofH m f parts (Rq.flds ((x.drop q0).length + 1) (x.drop q0) [])).2)) (Q0 : Exit → Act → World → Prop)
    (x0 x1 x2 x3 x4 x5 x10 x14 x15 x16 x17 x18 x19 x20 x21 x22 x23 x24 x25 x26 x27 x28 x29 x30 x31 x32 x33 x34 x35 x36 x37 x38 x39 x40 x41 x42 x43 x44 x45 x46 x47 x48 x49 x50 x51 x52 x53 x54 x55 x56 x57 x58 x59 x60 x61 x62 x63 x64 x65 x66 x67 x68 x69 x70 x71 x72 x73 x74 x75 x76 x77 x78 x79 x80 x81 x82 x83 x84 x85 x86 x87 x88 x89 x90 x91 x92 x93 x94 x95 x96 x97 x98 x99 x100 x101 x102 x103 x104 x105 x106 x107 x108 x109 x110 x111 x112 x113 x114 x115 x116 x117 x118 x119 x120 x121 x122 x123 x124 x125 x126 x127 x128 x129 x130 x131 x132 x133 x134 x135 x136 x137 x138 x139 x140 x141 x142 x143 x144 x145 x146 x147 x148 x149 x150 x151 x152 x153 x154 x155 x156 x157 x158 x159 x160 x161 x162 x163 x164 x165 x166 x167 x168 x169 x170 x171 x172 x173 x174 x175 x176 x177 x178 x179 x180 x181 x182 x183 x184 x185 x186 x187 x188 x189 x190 x191 x192 x193 x194 x195 x196 x197 x198 x199 x200 x201 x202 x203 x204 x205 x206 x207 x208 x209 x210 x211 x212 x213 x214 x215 x216 x217 x218 x219 x220 x221 x222 x223 x224 x225 x226 x227 x228 x229 x230 x231 x232 : Value)
    (hret : FoRet w m b Q0)
    (hexit : ∀ (w' : World) (y4 y5 y11 y13 y14 y15 y16 y17 y18 y124 y125 y126 y127 y128 y129 y130 y131 y132 y133 y134 y135 y136 y137 y138 y139 y140 y141 y142 y143 y144 y145 y146 y147 y148 y149 y150 y151 y152 y153 y154 y155 y156 y157 y158 y159 y160 y161 y162 y163 y164 y165 y166 y167 y168 y169 y170 : Value), (∃ (q nf : Nat) (fs : List Rq.Fl) (fo : Option Addr) (fcap : Nat), y11 = .int .i64 (q : Int) ∧ y13 = .slice fo nf fcap ∧ q0 + 2 ≤ q ∧ q ≤ xn ∧ x.drop (q - 2) = 13 :: 10 :: x.drop q ∧ FoSt w x xb xcap ao ca n es w' ∧ FfAt wH fs fo fcap nf w' ∧ Fm.of m b = (es ++ (Fm.ofH m f parts (.ok fs (x.drop q))).1, (Fm.ofH m f parts (.ok fs (x.drop q))).2)) → Q0 (.exit 4) ⟨(List.toArray (x0 :: x1 :: x2 :: x3 :: (y4) :: (y5) :: (.pointer (some ⟨w.heap.size, 0, none⟩)) :: (.func (.func 72) #[] #[.pointer (some ⟨w.heap.size, 0, none⟩)]) :: (.string ms) :: (.slice (some ⟨xb, 0, none⟩) xn xcap) :: x10 :: (y11) :: (.int .i64 (parts : Int)) :: (y13) :: (y14) :: (y15) :: (y16) :: (y17) :: (y18) :: x19 :: x20 :: x21 :: x22 :: x23 :: x24 :: x25 :: x26 :: x27 :: x28 :: x29 :: x30 :: x31 :: x32 :: x33 :: x34 :: x35 :: x36 :: x37 :: x38 :: x39 :: x40 :: x41 :: x42 :: x43 :: x44 :: x45 :: x46 :: x47 :: x48 :: x49 :: x50 :: x51 :: x52 :: x53 :: x54 :: x55 :: x56 :: x57 :: x58 :: x59 :: x60 :: x61 :: x62 :: x63 :: x64 :: x65 :: x66 :: x67 :: x68 :: x69 :: x70 :: x71 :: x72 :: x73 :: x74 :: x75 :: x76 :: x77 :: x78 :: x79 :: x80 :: x81 :: x82 :: x83 :: x84 :: x85 :: x86 :: x87 :: x88 :: x89 :: x90 :: x91 :: x92 :: x93 :: x94 :: x95 :: x96 :: x97 :: x98 :: x99 :: x100 :: x101 :: x102 :: x103 :: x104 :: x105 :: x106 :: x107 :: x108 :: x109 :: x110 :: x111 :: x112 :: x113 :: x114 :: x115 :: x116 :: x117 :: x118 :: x119 :: x120 :: x121 :: x122 :: x123 :: (y124) :: (y125) :: (y126) :: (y127) :: (y128) :: (y129) :: (y130) :: (y131) :: (y132) :: (y133) :: (y134) :: (y135) :: (y136) :: (y137) :: (y138) :: (y139) :: (y140) :: (y141) :: (y142) :: (y143) :: (y144) :: (y145) :: (y146) :: (y147) :: (y148) :: (y149) :: (y150) :: (y151) :: (y152) :: (y153) :: (y154) :: (y155) :: (y156) :: (y157) :: (y158) :: (y159) :: (y160) :: (y161) :: (y162) :: (y163) :: (y164) :: (y165) :: (y166) :: (y167) :: (y168) :: (y169) :: (y170) :: x171 :: x172 :: x173 :: x174 :: x175 :: x176 :: x177 :: x178 :: x179 :: x180 :: x181 :: x182 :: x183 :: x184 :: x185 :: x186 :: x187 :: x188 :: x189 :: x190 :: x191 :: x192 :: x193 :: x194 :: x195 :: x196 :: x197 :: x198 :: x199 :: x200 :: x201 :: x202 :: x203 :: x204 :: x205 :: x206 :: x207 :: x208 :: x209 :: x210 :: x211 :: x212 :: x213 :: x214 :: x215 :: x216 :: x217 :: x218 :: x219 :: x220 :: x221 :: x222 :: x223 :: x224 :: x225 :: x226 :: x227 :: x228 :: x229 :: x230 :: x231 :: x232 :: [])), []⟩ w') :
    Code.wp Tryz.prog formLoop3 Q0 ⟨(List.toArray (x0 :: x1 :: x2 :: x3 :: x4 :: x5 :: (.pointer (some ⟨w.heap.size, 0, none⟩)) :: (.func (.func 72) #[] #[.pointer (some ⟨w.heap.size, 0, none⟩)]) :: (.string ms) :: (.slice (some ⟨xb, 0, none⟩) xn xcap) :: x10 :: (.int .i64 (q0 : Int)) :: (.int .i64 (parts : Int)) :: (.slice none 0 0) :: x14 :: x15 :: x16 :: x17 :: x18 :: x19 :: x20 :: x21 :: x22 :: x23 :: x24 :: x25 :: x26 :: x27 :: x28 :: x29 :: x30 :: x31 :: x32 :: x33 :: x34 :: x35 :: x36 :: x37 :: x38 :: x39 :: x40 :: x41 :: x42 :: x43 :: x44 :: x45 :: x46 :: x47 :: x48 :: x49 :: x50 :: x51 :: x52 :: x53 :: x54 :: x55 :: x56 :: x57 :: x58 :: x59 :: x60 :: x61 :: x62 :: x63 :: x64 :: x65 :: x66 :: x67 :: x68 :: x69 :: x70 :: x71 :: x72 :: x73 :: x74 :: x75 :: x76 :: x77 :: x78 :: x79 :: x80 :: x81 :: x82 :: x83 :: x84 :: x85 :: x86 :: x87 :: x88 :: x89 :: x90 :: x91 :: x92 :: x93 :: x94 :: x95 :: x96 :: x97 :: x98 :: x99 :: x100 :: x101 :: x102 :: x103 :: x104 :: x105 :: x106 :: x107 :: x108 :: x109 :: x110 :: x111 :: x112 :: x113 :: x114 :: x115 :: x116 :: x117 :: x118 :: x119 :: x120 :: x121 :: x122 :: x123 :: x124 :: x125 :: x126 :: x127 :: x128 :: x129 :: x130 :: x131 :: x132 :: x133 :: x134 :: x135 :: x136 :: x137 :: x138 :: x139 :: x140 :: x141 :: x142 :: x143 :: x144 :: x145 :: x146 :: x147 :: x148 :: x149 :: x150 :: x151 :: x152 :: x153 :: x154 :: x155 :: x156 :: x157 :: x158 :: x159 :: x160 :: x161 :: x162 :: x163 :: x164 :: x165 :: x166 :: x167 :: x168 :: x169 :: x170 :: x171 :: x172 :: x173 :: x174 :: x175 :: x176 :: x177 :: x178 :: x179 :: x180 :: x181 :: x182 :: x183 :: x184 :: x185 :: x186 :: x187 :: x188 :: x189 :: x190 :: x191 :: x192 :: x193 :: x194 :: x195 :: x196 :: x197 :: x198 :: x199 :: x200 :: x201 :: x202 :: x203 :: x204 :: x205 :: x206 :: x207 :: x208 :: x209 :: x210 :: x211 :: x212 :: x213 :: x214 :: x215 :: x216 :: x217 :: x218 :: x219 :: x220 :: x221 :: x222 :: x223 :: x224 :: x225 :: x226 :: x227 :: x228 :: x229 :: x230 :: x231 :: x232 :: [])), []⟩ wH := by
  have HXn := Hid.mk' hxn
  have HX := Hid.mk' hexit
  have HRt := Hid.mk' hret
  have HS0 := Hid.mk' hst
  have hld : (x.drop q0).length = xn - q0 := by rw [List.length_drop, hxn]
  have HR0 : Hid (F2Rel w wH m b x xb xcap q0 ao ca n es f parts (xn - q0) [] none 0 0 wH) := ⟨hst, FfAt.start wH, by rw [hxn]; omega, by rw [hld] at hof; exact hof⟩
  have hcap : xn ≤ xcap := by have := hst.xs.is.1; omega
  clear hexit hret hst hof hld
  conv => arg 2; whnf
  go_loopw [11, 13] (fun va vl wr => ∃ (q f2 nf : Nat) (fs : List Rq.Fl) (fo : Option Addr) (fcap : Nat), q0 ≤ q ∧ q ≤ xn ∧ va = .int .i64 q ∧ vl = .slice fo nf fcap ∧ F2Rel w wH m b x xb xcap q ao ca n es f parts f2 fs fo fcap nf wr) (fun va _ _ => xn + 1 - (intOf va).toNat)
  case atStart => exact ⟨q0, xn - q0, 0, [], none, 0, Nat.le_refl _, hq0, rfl, rfl, HR0.out⟩
  case round =>
    clear HR0
    obtain ⟨q, f2, nf, fs, fo, fcap, hqq, hq, rfl, rfl, hR⟩ := hrel
    have HR := Hid.mk' hR
    have HLn := Hid.mk' (fun k n' c ao' hk hn' hc ha W hW => lineFrom hR.st.xs.is (by rw [hxn]; exact hx9) k n' c ao' hk hn' hc ha W hW)
    have c0 : wr.cell? ⟨w.heap.size, 0, none⟩ = some (.slice ao n ca) := hR.st.rs.cell.cell 0
    have h16 := hR.ff.few
    clear hR hxn
    go_upto_region 31 with fail
    go_cut [14, 15, 16, 17] from 124 to 170 (fun v14 v15 v16 v17 wd => v14 = .string ⟨(Ln.of (x.drop q)).text.toArray⟩ ∧ v15 = .int .i64 ((Ln.of (x.drop q)).size : Int) ∧ v16 = .bool (Ln.of (x.drop q)).ended ∧ v17 = .int .i64 ((Ln.of (x.drop q)).code : Int) ∧ wd = wr)
    case first =>
      by_cases hac : xcap = q
      · have HL1 := Hid.mk' (fun W hW => HLn.out q 0 0 (some ⟨xb, 0, none⟩) (by rw [HXn.out]; exact hq) (by rw [HXn.out]; omega) (by omega) (fun e => absurd hac e) W hW)
        have e1 : xn - q = 0 := by omega
        have e2 : xcap - q = 0 := by omega
        generalize Ln.of (x.drop q) = L at *
        subst hac
        go_wp2_with fail
        refine (HL1.out _ (Below.refl _ _)).mono ?_
        rintro e w1 ⟨rfl, hw⟩
        subst hw
        go_wp2
        go_meet
        exact ⟨rfl, rfl, rfl, rfl, rfl⟩
      · have HL1 := Hid.mk' (fun W hW => HLn.out q (xn - q) (xcap - q) (some ⟨xb, q, none⟩) (by rw [HXn.out]; exact hq) (by rw [HXn.out]) rfl (fun _ => by rw [Nat.zero_add]) W hW)
        generalize Ln.of (x.drop q) = L at *
        go_wp2_with fail
        refine (HL1.out _ (Below.refl _ _)).mono ?_
        rintro e w1 ⟨rfl, hw⟩
        subst hw
        go_wp2
        go_meet
        exact ⟨rfl, rfl, rfl, rfl, rfl⟩
    case rest =>
      obtain ⟨rfl, rfl, rfl, rfl, hw⟩ := hcut
      subst hw
      clear HLn
      have hle2 := Ln.of_le (x.drop q)
      rw [List.length_drop, HXn.out] at hle2
      have HOf := Hid.mk' HR.out.of_
      have HT2 := Hid.mk' (Ln.of_text_200 (x.drop q))
      have HRs := Hid.mk' HR.out.st.rs
      by_cases hlc : (Ln.of (x.drop q)).code = 0
      · by_cases hen : (Ln.of (x.drop q)).ended = true
        · have hsz2 : 0 < (Ln.of (x.drop q)).size := by
            rcases Nat.eq_zero_or_pos (Ln.of (x.drop q)).size with h | h
            · have := Ck.open_of h; rw [hen] at this; cases this.2
            · exact h
          have HDD : Hid (∀ k, (x.drop q).drop k = x.drop (q + k)) := fun k => List.drop_drop
          have hfu2 := HR.out.f_
          rw [HXn.out] at hfu2
          obtain ⟨f3, rfl⟩ : ∃ f3, f2 = f3 + 1 := ⟨f2 - 1, by omega⟩
          by_cases htx : (Ln.of (x.drop q)).text = []
          · obtain ⟨t, ht1, ht2⟩ := Fm.line_empty hen htx
            have hq2 : q + 2 ≤ xn := by rw [ht2] at hle2; omega
            have HCr : Hid (x.drop (q + 2 - 2) = 13 :: 10 :: x.drop (q + 2)) := by
              unfold Hid
              rw [show q + 2 - 2 = q by omega, ← List.drop_drop, ht1]; rfl
            rw [Rq.flds_end hlc hen htx, HDD.out, ht2] at HOf
            rw [hlc, hen, htx, ht2]
            clear htx hlc hen HT2 HDD ht1 ht2 hle2 hsz2
            go_wp2
            refine HX.out _ _ _ _ _ _ _ _ _ _ _ _ _ _ _ _ _ _ _ _ _ _ _ _ _ _ _ _ _ _ _ _ _ _ _ _ _ _ _ _ _ _ _ _ _ _ _ _ _ _ _ _ _ _ _ _ _ ?_
            exact ⟨q + 2, nf, fs, fo, fcap, by go_num, rfl, by omega, hq2, HCr.out, HR.out.st, HR.out.ff, HOf.out⟩
          · have ttx : ((⟨(Ln.of (x.drop q)).text.toArray⟩ : ByteArray).toList == []) = false := by rw [beq_eq_false_iff_ne, Lib.toList_data]; exact htx
            by_cases hm16 : fs.length = 16
            · rw [Rq.flds_many hlc hen htx hm16] at HOf
              have t16 : ((nf : Int) == 16) = true := by rw [beq_iff_eq]; have := HR.out.ff.len; omega
              rw [hlc, hen]
              have HF := Hid.mk' (formFail_any w wc ao ca n 8 es HRs.out (by omega))
              clear htx hlc hen hm16 HT2 HDD
              generalize (Ln.of (x.drop q)).size = sz2 at *
              generalize (⟨(Ln.of (x.drop q)).text.toArray⟩ : ByteArray) = tb2 at *
              go_wp2_with fail
              refine HF.out.mono ?_
              rintro e w9 ⟨a9, c9, rfl, hW, hB⟩
              have HW := Hid.mk' hW; have HBw := Hid.mk' hB
              clear hW hB
              go_wp2
              exact HRt.out _ _ _ _ _ _ rfl rfl (FoOut.of HOf.out (by rw [List.length_append, ← HRs.out.len]; rfl) HW.out HBw.out)
            · have t16 : ((nf : Int) == 16) = false := by rw [beq_eq_false_iff_ne]; have := HR.out.ff.len; omega
              have HFd := Hid.mk' (fun W => fieldOf_any ⟨(Ln.of (x.drop q)).text.toArray⟩ W (by show (Ln.of (x.drop q)).text.toArray.size ≤ _; rw [List.size_toArray]; have := HT2.out; omega))
              have hdat : (⟨(Ln.of (x.drop q)).text.toArray⟩ : ByteArray).data.toList = (Ln.of (x.drop q)).text := rfl
              rw [hdat] at HFd
              unfold Fd.val at HFd
              have HN16 : Hid (nf ≠ 16) := by have := HR.out.ff.len; unfold Hid; omega
              by_cases hfc : (Fd.of (Ln.of (x.drop q)).text).code = 0
              · rw [Rq.flds_more hlc hen htx hm16 hfc, HDD.out] at HOf
                have HLe : Hid ((Fd.of (Ln.of (x.drop q)).text).name.length ≤ 200 ∧ (Fd.of (Ln.of (x.drop q)).text).value.length ≤ 200) := by
                  have h1 := Fd.of_length (Ln.of (x.drop q)).text
                  have h2 := HT2.out
                  exact ⟨by omega, by omega⟩
                rw [hlc, hen]
                rw [hfc] at HFd
                clear htx hlc hen hm16 HT2 HDD hdat hfc
                generalize (Ln.of (x.drop q)).size = sz2 at *
                generalize (Fd.of (Ln.of (x.drop q)).text) = fd at *
                generalize (⟨(Ln.of (x.drop q)).text.toArray⟩ : ByteArray) = tb2 at *
                go_wp2_with fail
                refine (HFd.out _).mono ?_
                rintro e w2 ⟨rfl, hb2⟩
                have hbA : Below wc.heap.size wc ((w2.alloc (.cells #[.string ⟨fd.name.toArray⟩, .string ⟨fd.value.toArray⟩] 51)).alloc (.cells #[.string ⟨fd.name.toArray⟩, .string ⟨fd.value.toArray⟩] 51)) := then_ (then_ hb2 ((Below.refl _ _).alloc (Nat.le_refl _) _)) ((Below.refl _ _).alloc (Nat.le_refl _) _)
                have HBA := Hid.mk' hbA
                have HRow := Hid.mk' ((HR.out.ff.row.stay hb2).stay ((Below.refl _ _).alloc (Nat.le_refl _) (.cells #[.string ⟨fd.name.toArray⟩, .string ⟨fd.value.toArray⟩] 51)))
                have HLt : Hid (wH.heap.size ≤ w2.heap.size) := (then_ HR.out.ff.below hb2).size
                obtain ⟨i1, hi1, hw0, hw1, hw2⟩ := info_parts info_fld
                have Hi1 := Hid.mk' hi1; have Hw0 := Hid.mk' hw0; have Hw1 := Hid.mk' hw1; have Hw2 := Hid.mk' hw2
                clear hi1 hw0 hw1 hw2 hb2 hbA HFd c0
                go_wp2_with (at_builtin; refine wpList_append_v rfl (.tmp 167) (.tmp 169) 23 rfl wH.heap.size 51 i1 (.agg #[.string ⟨#[]⟩, .string ⟨#[]⟩]) 2 32 Tryz.underlying23 Hi1.out Hw0.out Hw1.out Hw2.out rfl (by decide) rfl (HRow.out.alloc _) rfl (IsV.madeAt _ _ 1 _ _ (by simp)) rfl (fun u hu => by simp at hu; rcases hu with rfl | rfl <;> rfl) (by omega) (by omega) (by rw [World.size_alloc, World.size_alloc]; have := HLt.out; omega) ?_; intro a4 c4 w4 hO4 hG4 hat4; have HM := Hid.mk' (HR.out.ff.more HBA.out hO4 hG4 HN16.out HLe.out.1 HLe.out.2); have HSt := Hid.mk' (FoSt.grown HR.out.ff HBA.out hG4 HS0.out); clear hO4 hG4 hat4)
                go_roundw
                case rel => exact ⟨q + sz2, f3, nf + 1, _, a4, c4, by omega, by omega, by go_num, rfl, ⟨HSt.out, HM.out, by rw [HXn.out]; omega, HOf.out⟩⟩
                case measure => simp [intOf]; omega
              · rw [Rq.flds_bad hlc hen htx hm16 hfc] at HOf
                have tfc : (((Fd.of (Ln.of (x.drop q)).text).code : Int) != 0) = true := by rw [bne_iff_ne]; omega
                rw [hlc, hen]
                clear htx hlc hen hm16 HT2 HDD hdat hfc
                generalize (Ln.of (x.drop q)).size = sz2 at *
                generalize (Fd.of (Ln.of (x.drop q)).text) = fd at *
                generalize (⟨(Ln.of (x.drop q)).text.toArray⟩ : ByteArray) = tb2 at *
                go_wp2_with fail
                refine (HFd.out _).mono ?_
                rintro e w2 ⟨rfl, hb2⟩
                have HF := Hid.mk' (fun ob => formFail_any w (w2.alloc ob) ao ca n fd.code es ((HRs.out.stay hb2).stay ((Below.refl _ _).alloc (Nat.le_refl _) _)) (by omega))
                clear hb2 HFd
                go_wp2_with fail
                refine (HF.out _).mono ?_
                rintro e w9 ⟨a9, c9, rfl, hW, hB⟩
                have HW := Hid.mk' hW; have HBw := Hid.mk' hB
                clear hW hB
                go_wp2
                exact HRt.out _ _ _ _ _ _ rfl rfl (FoOut.of HOf.out (by rw [List.length_append, ← HRs.out.len]; rfl) HW.out HBw.out)
        · have hen' : (Ln.of (x.drop q)).ended = false := by simpa using hen
          rw [Rq.flds_open hlc hen'] at HOf
          rw [hlc, hen']
          clear hen hen' hlc HT2
          generalize (Ln.of (x.drop q)).size = sz2 at *
          generalize (⟨(Ln.of (x.drop q)).text.toArray⟩ : ByteArray) = tb2 at *
          have hof2 : Fm.of m b = (es, 14) := by rw [HOf.out]; show (es ++ [], 14) = _; rw [List.append_nil]
          have HOf2 := Hid.mk' hof2
          clear hof2 HOf
          go_wp2
          exact HRt.out _ _ _ _ _ _ rfl rfl (FoOut.of HOf2.out HRs.out.len HRs.out.want HRs.out.cell.below)
      · rw [Rq.flds_code hlc] at HOf
        have tlc : (((Ln.of (x.drop q)).code : Int) != 0) = true := by rw [bne_iff_ne]; omega
        generalize Ln.of (x.drop q) = L at *
        obtain ⟨t2, sz2, en2, lc2⟩ := L
        simp only at *
        generalize (⟨t2.toArray⟩ : ByteArray) = tb2 at *
        have HF := Hid.mk' (formFail_any w wc ao ca n lc2 es HRs.out (by omega))
        clear hlc
        go_wp2_with fail
        refine HF.out.mono ?_
        rintro e w9 ⟨a9, c9, rfl, hW, hB⟩
        have HW := Hid.mk' hW; have HBw := Hid.mk' hB
        clear hW hB
        go_wp2
        exact HRt.out _ _ _ _ _ _ rfl rfl (FoOut.of HOf.out (by rw [List.length_append, ← HRs.out.len]; rfl) HW.out HBw.out)
end Go.Proofs.YtjpenioloeplgacGreatDoor

/- The document's own answer for forms, walked: what FormOf does behind a part's fields. -/
namespace Go.Proofs.YtjpenioloeplgacGreatDoor
open Go.RowKit

theorem someD_none {l : List UInt8} (h : ¬ 0 < l.length) : Fm.someD l = [] := by unfold Fm.someD; rw [if_pos (List.eq_nil_of_length_eq_zero (by omega))]
theorem someD_some {l : List UInt8} (h : 0 < l.length) : Fm.someD l = [bodyD l] := by unfold Fm.someD; rw [if_neg (List.length_pos_iff.1 h)]
/-- one event more, by its row as append leaves it -/
theorem FoSt.pushed {w W : World} {x : List UInt8} {xb xcap : Nat} {ao : Option Addr} {ca n : Nat} {es : List EvD} (h : FoSt w x xb xcap ao ca n es W) (ob : Obj) : ∃ xs, OwnV (W.alloc ob) (w.heap.size + 1) 32 12 ao ca n xs ∧
    ∀ ao' cap' w' (e : EvD) s ys, e.cells s = ys → InE W (fun k => w.heap.size + 1 ≤ k ∧ blockOf ao ≠ some k) e s → OwnV w' (w.heap.size + 1) 32 12 ao' cap' (n + 1) (xs ++ ys) → (W.alloc ob).grownBy w' (blockOf ao) → (blockOf ao' = blockOf ao ∨ blockOf ao' = some (W.alloc ob).heap.size) →
      WantIn w' (w.heap.size + 1) 32 ao' cap' (es ++ [e]) ∧ OneAt w #[.slice ao n ca] 26 w' ∧ Below w.heap.size w w' ∧ FoSt w x xb xcap ao' cap' (n + 1) (es ++ [e]) (w'.setCell ⟨w.heap.size, 0, none⟩ (.slice ao' (n + 1) cap')) := by
  obtain ⟨xs, h1, h2⟩ := h.rs.push ob
  refine ⟨xs, h1, fun ao' cap' w' e s ys hy hE hO hG hat => ?_⟩
  obtain ⟨g1, g2, g3, g4, g5⟩ := h2 ao' cap' w' e s ys hy hE hO hG hat
  exact ⟨g1, g2, g3, ⟨g4, g5 _ _ _ h.xs⟩⟩
/-- a part's bytes, as they lie -/
theorem FoSt.piece {w W : World} {x : List UInt8} {xb xcap : Nat} {ao : Option Addr} {ca n : Nat} {es : List EvD} (h : FoSt w x xb xcap ao ca n es W) (q En : Nat) (hq2 : 2 ≤ q) (hq : q ≤ x.length) (hcr : x.drop (q - 2) = 13 :: 10 :: x.drop q) (hE2 : 2 < En) (hE : En ≤ x.length - (q - 2)) :
    InE W (fun k => w.heap.size + 1 ≤ k ∧ blockOf ao ≠ some k) (bodyD (((13 :: 10 :: x.drop q).take En).drop 2)) ⟨none, 0, some ⟨xb, q, none⟩, xcap - (q - 2) - 2, none, 0⟩ ∧ (((13 :: 10 :: x.drop q).take En).drop 2).length = En - 2 := by
  have hR : (13 :: 10 :: x.drop q : List UInt8).length = x.length - (q - 2) := by rw [← hcr, List.length_drop]
  have h1 := h.xs.is.cut (ao' := some ⟨xb, q - 2, none⟩) (q - 2) x.length (by omega) (Nat.le_refl _) (fun _ => by simp [Addr.add_lit])
  rw [hcr, List.take_of_length_le (by rw [hR]; exact Nat.le_refl _)] at h1
  have h2 := h1.cut (ao' := some ⟨xb, q, none⟩) 2 En (by omega) (by rw [hR]; exact hE) (fun _ => by simp only [Option.map_some, Addr.add_lit]; rw [Nat.sub_add_cancel hq2])
  rw [← List.drop_take] at h2
  have hx : x ≠ [] := fun e => by rw [e] at hq; simp at hq; omega
  refine ⟨⟨IsVS.nil _ _, ⟨h2, fun _ a e => ?_⟩, IsBS.nil _ _⟩, by rw [List.length_drop, List.length_take, hR]; omega⟩
  injection e with e
  subst e
  exact h.xs.mem hx ⟨xb, 0, none⟩ rfl
theorem new_at (W : World) (cs : Array Value) (t : Nat) {k : Nat} (hk : W.heap.size = k) (ys : List Value) (hy : cs.toList = ys) : ∀ j u, ys[j]? = some u → (W.alloc (.cells cs t)).cell? (Addr.add ⟨k, 0, none⟩ j) = some u := fun j u hu => by
  subst hk
  have := (IsV.made W cs 1 t (0, 0)).cell (j := j) (u := u) (by rw [hy]; exact hu)
  exact this
theorem lies_at {ao : Option Addr} {n cap g H : Nat} (h : (Value.slice ao n cap).ownBlock = some g ∨ g = H) : blockOf (some ⟨g, 0, none⟩) = blockOf ao ∨ blockOf (some ⟨g, 0, none⟩) = some H := by
  rw [ownBlock_slice] at h
  rcases h with h | h
  · exact Or.inl h.symm
  · exact Or.inr (by rw [h]; rfl)

set_option maxRecDepth 100000 in
set_option maxHeartbeats 8000000 in
theorem formTail_any (m b x : List UInt8) (ms : ByteArray) (w W0 wH : World) (xb xcap xn q parts f n : Nat) (ao : Option Addr) (ca : Nat) (es : List EvD) (fs : List Rq.Fl) (fo : Option Addr) (fcap nf : Nat)
    (hms : ms.data.toList = m) (hm5 : 5 ≤ m.length) (hm7 : m.length ≤ 100) (hxn : x.length = xn) (hx9 : xn ≤ 20000) (hst : FoSt w x xb xcap ao ca n es W0) (hff : FfAt wH fs fo fcap nf W0)
    (hq2 : 2 ≤ q) (hq : q ≤ xn) (hcr : x.drop (q - 2) = 13 :: 10 :: x.drop q) (hf : xn < q + f) (hfew : n ≤ 3 * parts) (hp12 : parts ≤ 12)
    (hof : Fm.of m b = (es ++ (Fm.ofH m f parts (.ok fs (x.drop q))).1, (Fm.ofH m f parts (.ok fs (x.drop q))).2)) (Q0 : Exit → Act → World → Prop)
    (x0 x1 x2 x3 x4 x5 x10 x14 x15 x16 x17 x18 x19 x20 x21 x22 x23 x24 x25 x26 x27 x28 x29 x30 x31 x32 x33 x34 x35 x36 x37 x38 x39 x40 x41 x42 x43 x44 x45 x46 x47 x48 x49 x50 x51 x52 x53 x54 x55 x56 x57 x58 x59 x60 x61 x62 x63 x64 x65 x66 x67 x68 x69 x70 x71 x72 x73 x74 x75 x76 x77 x78 x79 x80 x81 x82 x83 x84 x85 x86 x87 x88 x89 x90 x91 x92 x93 x94 x95 x96 x97 x98 x99 x100 x101 x102 x103 x104 x105 x106 x107 x108 x109 x110 x111 x112 x113 x114 x115 x116 x117 x118 x119 x120 x121 x122 x123 x124 x125 x126 x127 x128 x129 x130 x131 x132 x133 x134 x135 x136 x137 x138 x139 x140 x141 x142 x143 x144 x145 x146 x147 x148 x149 x150 x151 x152 x153 x154 x155 x156 x157 x158 x159 x160 x161 x162 x163 x164 x165 x166 x167 x168 x169 x170 x171 x172 x173 x174 x175 x176 x177 x178 x179 x180 x181 x182 x183 x184 x185 x186 x187 x188 x189 x190 x191 x192 x193 x194 x195 x196 x197 x198 x199 x200 x201 x202 x203 x204 x205 x206 x207 x208 x209 x210 x211 x212 x213 x214 x215 x216 x217 x218 x219 x220 x221 x222 x223 x224 x225 x226 x227 x228 x229 x230 x231 x232 : Value)
    (hret : FoRet w m b Q0)
    (hexit : ∀ (w' : World) (y11 y19 y20 y21 y22 y23 y171 y172 y173 y174 y175 y176 y177 y178 y179 y180 y181 y182 y183 y184 y185 y186 y187 y188 y189 y190 y191 y192 y193 y194 y195 y196 y197 y198 y199 y200 y201 y202 y203 y204 y205 y206 y207 y208 y209 y210 y211 y212 y213 y214 y215 y216 y217 y218 y219 y220 y221 y222 y223 y224 y225 y226 y227 y228 y229 y230 y231 y232 : Value), (∃ (p' n' : Nat) (ao' : Option Addr) (ca' : Nat) (es' : List EvD) (f' : Nat), y11 = .int .i64 (p' : Int) ∧ q < p' ∧ p' ≤ xn ∧ parts ≠ 12 ∧ F1Rel w m b x xb xcap p' (parts + 1) ao' ca' n' es' f' w') → Q0 .normal ⟨(List.toArray (x0 :: x1 :: x2 :: x3 :: x4 :: x5 :: (.pointer (some ⟨w.heap.size, 0, none⟩)) :: (.func (.func 72) #[] #[.pointer (some ⟨w.heap.size, 0, none⟩)]) :: (.string ms) :: (.slice (some ⟨xb, 0, none⟩) xn xcap) :: x10 :: (y11) :: (.int .i64 (parts : Int)) :: (.slice fo nf fcap) :: x14 :: x15 :: x16 :: x17 :: x18 :: (y19) :: (y20) :: (y21) :: (y22) :: (y23) :: x24 :: x25 :: x26 :: x27 :: x28 :: x29 :: x30 :: x31 :: x32 :: x33 :: x34 :: x35 :: x36 :: x37 :: x38 :: x39 :: x40 :: x41 :: x42 :: x43 :: x44 :: x45 :: x46 :: x47 :: x48 :: x49 :: x50 :: x51 :: x52 :: x53 :: x54 :: x55 :: x56 :: x57 :: x58 :: x59 :: x60 :: x61 :: x62 :: x63 :: x64 :: x65 :: x66 :: x67 :: x68 :: x69 :: x70 :: x71 :: x72 :: x73 :: x74 :: x75 :: x76 :: x77 :: x78 :: x79 :: x80 :: x81 :: x82 :: x83 :: x84 :: x85 :: x86 :: x87 :: x88 :: x89 :: x90 :: x91 :: x92 :: x93 :: x94 :: x95 :: x96 :: x97 :: x98 :: x99 :: x100 :: x101 :: x102 :: x103 :: x104 :: x105 :: x106 :: x107 :: x108 :: x109 :: x110 :: x111 :: x112 :: x113 :: x114 :: x115 :: x116 :: x117 :: x118 :: x119 :: x120 :: x121 :: x122 :: x123 :: x124 :: x125 :: x126 :: x127 :: x128 :: x129 :: x130 :: x131 :: x132 :: x133 :: x134 :: x135 :: x136 :: x137 :: x138 :: x139 :: x140 :: x141 :: x142 :: x143 :: x144 :: x145 :: x146 :: x147 :: x148 :: x149 :: x150 :: x151 :: x152 :: x153 :: x154 :: x155 :: x156 :: x157 :: x158 :: x159 :: x160 :: x161 :: x162 :: x163 :: x164 :: x165 :: x166 :: x167 :: x168 :: x169 :: x170 :: (y171) :: (y172) :: (y173) :: (y174) :: (y175) :: (y176) :: (y177) :: (y178) :: (y179) :: (y180) :: (y181) :: (y182) :: (y183) :: (y184) :: (y185) :: (y186) :: (y187) :: (y188) :: (y189) :: (y190) :: (y191) :: (y192) :: (y193) :: (y194) :: (y195) :: (y196) :: (y197) :: (y198) :: (y199) :: (y200) :: (y201) :: (y202) :: (y203) :: (y204) :: (y205) :: (y206) :: (y207) :: (y208) :: (y209) :: (y210) :: (y211) :: (y212) :: (y213) :: (y214) :: (y215) :: (y216) :: (y217) :: (y218) :: (y219) :: (y220) :: (y221) :: (y222) :: (y223) :: (y224) :: (y225) :: (y226) :: (y227) :: (y228) :: (y229) :: (y230) :: (y231) :: (y232) :: [])), []⟩ w') :
    Code.wp Tryz.prog formTail Q0 ⟨(List.toArray (x0 :: x1 :: x2 :: x3 :: x4 :: x5 :: (.pointer (some ⟨w.heap.size, 0, none⟩)) :: (.func (.func 72) #[] #[.pointer (some ⟨w.heap.size, 0, none⟩)]) :: (.string ms) :: (.slice (some ⟨xb, 0, none⟩) xn xcap) :: x10 :: (.int .i64 (q : Int)) :: (.int .i64 (parts : Int)) :: (.slice fo nf fcap) :: x14 :: x15 :: x16 :: x17 :: x18 :: x19 :: x20 :: x21 :: x22 :: x23 :: x24 :: x25 :: x26 :: x27 :: x28 :: x29 :: x30 :: x31 :: x32 :: x33 :: x34 :: x35 :: x36 :: x37 :: x38 :: x39 :: x40 :: x41 :: x42 :: x43 :: x44 :: x45 :: x46 :: x47 :: x48 :: x49 :: x50 :: x51 :: x52 :: x53 :: x54 :: x55 :: x56 :: x57 :: x58 :: x59 :: x60 :: x61 :: x62 :: x63 :: x64 :: x65 :: x66 :: x67 :: x68 :: x69 :: x70 :: x71 :: x72 :: x73 :: x74 :: x75 :: x76 :: x77 :: x78 :: x79 :: x80 :: x81 :: x82 :: x83 :: x84 :: x85 :: x86 :: x87 :: x88 :: x89 :: x90 :: x91 :: x92 :: x93 :: x94 :: x95 :: x96 :: x97 :: x98 :: x99 :: x100 :: x101 :: x102 :: x103 :: x104 :: x105 :: x106 :: x107 :: x108 :: x109 :: x110 :: x111 :: x112 :: x113 :: x114 :: x115 :: x116 :: x117 :: x118 :: x119 :: x120 :: x121 :: x122 :: x123 :: x124 :: x125 :: x126 :: x127 :: x128 :: x129 :: x130 :: x131 :: x132 :: x133 :: x134 :: x135 :: x136 :: x137 :: x138 :: x139 :: x140 :: x141 :: x142 :: x143 :: x144 :: x145 :: x146 :: x147 :: x148 :: x149 :: x150 :: x151 :: x152 :: x153 :: x154 :: x155 :: x156 :: x157 :: x158 :: x159 :: x160 :: x161 :: x162 :: x163 :: x164 :: x165 :: x166 :: x167 :: x168 :: x169 :: x170 :: x171 :: x172 :: x173 :: x174 :: x175 :: x176 :: x177 :: x178 :: x179 :: x180 :: x181 :: x182 :: x183 :: x184 :: x185 :: x186 :: x187 :: x188 :: x189 :: x190 :: x191 :: x192 :: x193 :: x194 :: x195 :: x196 :: x197 :: x198 :: x199 :: x200 :: x201 :: x202 :: x203 :: x204 :: x205 :: x206 :: x207 :: x208 :: x209 :: x210 :: x211 :: x212 :: x213 :: x214 :: x215 :: x216 :: x217 :: x218 :: x219 :: x220 :: x221 :: x222 :: x223 :: x224 :: x225 :: x226 :: x227 :: x228 :: x229 :: x230 :: x231 :: x232 :: [])), []⟩ W0 := by
  have HXn := Hid.mk' hxn; have HMs := Hid.mk' hms; have HCr := Hid.mk' hcr
  have HX := Hid.mk' hexit
  have HRt := Hid.mk' hret
  have HSt := Hid.mk' hst
  have HOf := Hid.mk' hof
  have hcap : xn ≤ xcap := by have := hst.xs.is.1; omega
  have hmsz : ms.size = m.length := by rw [← Ch.len_list, hms]
  have hpo := partOf_any (Rq.flT fs) fo fcap nf W0 hff.row.isV (by rw [Rq.flT_length]; exact hff.len.symm) (by have := hff.few; omega) (fun p hp => by
    unfold Rq.flT at hp
    obtain ⟨y, hy, rfl⟩ := List.mem_map.1 hp
    have := hff.good y hy
    refine ⟨?_, ?_⟩
    · show y.1.toArray.size ≤ _; rw [List.size_toArray]; omega
    · show y.2.toArray.size ≤ _; rw [List.size_toArray]; omega)
  rw [Rq.flB_flT] at hpo
  have HPo := Hid.mk' hpo
  have c0 : W0.cell? ⟨w.heap.size, 0, none⟩ = some (.slice ao n ca) := hst.rs.cell.cell 0
  have hn36 : n ≤ 36 := by omega
  clear hexit hret hst hof hpo hff hcr hms hxn
  cases hpt : Fm.part fs with
  | inl c =>
    rw [hpt] at HPo
    unfold Fm.partV at HPo
    simp only at HPo
    rw [Fm.ofH_bad m f parts hpt] at HOf
    have tc : ((c : Int) != 0) = true := by rw [bne_iff_ne]; have := Fm.part_code hpt; omega
    clear hpt
    conv => arg 2; whnf
    go_wp2_with fail
    refine HPo.out.mono ?_
    rintro e w1 ⟨rfl, hb1⟩
    have HF := Hid.mk' (fun ob => formFail_any w (w1.alloc ob) ao ca n c es ((HSt.out.rs.stay hb1).stay ((Below.refl _ _).alloc (Nat.le_refl _) ob)) (by omega))
    clear hb1 HPo
    go_wp2_with fail
    refine (HF.out _).mono ?_
    rintro e w9 ⟨a9, c9, rfl, hW, hB⟩
    have HW := Hid.mk' hW; have HBw := Hid.mk' hB
    clear hW hB
    go_wp2
    exact HRt.out _ _ _ _ _ _ rfl rfl (FoOut.of HOf.out (by rw [List.length_append, ← HSt.out.rs.len]; rfl) HW.out HBw.out)
  | inr p =>
    rw [hpt] at HPo
    unfold Fm.partV at HPo
    simp only at HPo
    by_cases h12 : parts = 12
    · subst h12
      rw [Fm.ofH_many m f hpt] at HOf
      have t12 : (((12 : Nat) : Int) == 12) = true := by decide
      clear hpt
      conv => arg 2; whnf
      go_wp2_with fail
      refine HPo.out.mono ?_
      rintro e w1 ⟨rfl, hb1⟩
      have HF := Hid.mk' (fun ob => formFail_any w (w1.alloc ob) ao ca n 8 es ((HSt.out.rs.stay hb1).stay ((Below.refl _ _).alloc (Nat.le_refl _) ob)) (by omega))
      clear hb1 HPo
      go_wp2_with fail
      refine (HF.out _).mono ?_
      rintro e w9 ⟨a9, c9, rfl, hW, hB⟩
      have HW := Hid.mk' hW; have HBw := Hid.mk' hB
      clear hW hB
      go_wp2
      exact HRt.out _ _ _ _ _ _ rfl rfl (FoOut.of HOf.out (by rw [List.length_append, ← HSt.out.rs.len]; rfl) HW.out HBw.out)
    · have t12 : ((parts : Int) == 12) = false := by rw [beq_eq_false_iff_ne]; omega
      rw [Fm.ofH_part m f parts hpt h12] at HOf
      have HPd : Hid (Fm.partD p = ⟨5, ⟨#[]⟩, ⟨#[]⟩, 0, [], 0, [], ⟨p.name.toArray⟩, ⟨p.file.toArray⟩, ⟨p.type.toArray⟩, [], 0⟩) := rfl
      clear hpt
      generalize (⟨p.name.toArray⟩ : ByteArray) = pn at *
      generalize (⟨p.file.toArray⟩ : ByteArray) = pf at *
      generalize (⟨p.type.toArray⟩ : ByteArray) = py at *
      obtain ⟨i0, hi0, hz0, hz1, hz2⟩ := info_parts info_evF
      have Hi := Hid.mk' hi0; have Hz0 := Hid.mk' hz0; have Hz1 := Hid.mk' hz1; have Hz2 := Hid.mk' hz2
      clear hi0 hz0 hz1 hz2
      conv => arg 2; whnf
      go_wp2_with fail
      refine HPo.out.mono ?_
      rintro e w1 ⟨rfl, hb1⟩
      clear HPo
      go_upto_region 49 with fail
      have hS1 := (HSt.out.stay hb1).stay ((Below.refl _ _).alloc (Nat.le_refl _) (.cells #[.string pn, .string pf, .string py, .slice none 0 0] 30))
      have hP1 : OneAt w1 #[.string pn, .string pf, .string py, .slice none 0 0] 30 (w1.alloc (.cells #[.string pn, .string pf, .string py, .slice none 0 0] 30)) := OneAt.made _ _ _
      clear hb1 HSt c0
      generalize (w1.alloc (.cells #[.string pn, .string pf, .string py, .slice none 0 0] 30)) = W1 at *
      have x0 : W1.cell? ⟨w.heap.size, 0, none⟩ = some (.slice ao n ca) := hS1.rs.cell.cell 0
      have k0 : W1.cell? ⟨w1.heap.size, 0, none⟩ = some (.string pn) := hP1.cell 0
      have k1 : W1.cell? ⟨w1.heap.size, 1, none⟩ = some (.string pf) := hP1.cell 1
      have k2 : W1.cell? ⟨w1.heap.size, 2, none⟩ = some (.string py) := hP1.cell 2
      have k3 : W1.cell? ⟨w1.heap.size, 3, none⟩ = some (.slice none 0 0) := hP1.cell 3
      obtain ⟨xs, hOx, hpx⟩ := hS1.pushed (.cells #[.int .i64 5, .string ⟨#[]⟩, .string ⟨#[]⟩, .int .i64 0, .slice none 0 0, .int .i64 0, .slice none 0 0, .string pn, .string pf, .string py, .slice none 0 0, .int .i64 0] 32)
      have HOx := Hid.mk' hOx; have HPx := Hid.mk' hpx
      have HCe : Hid ((Fm.partD p).cells ⟨none, 0, none, 0, none, 0⟩ = (#[.int .i64 5, .string ⟨#[]⟩, .string ⟨#[]⟩, .int .i64 0, .slice none 0 0, .int .i64 0, .slice none 0 0, .string pn, .string pf, .string py, .slice none 0 0, .int .i64 0] : Array Value).toList) := by
        unfold Hid; rw [HPd.out]; rfl
      have HIn : Hid (InE W1 (fun k => w.heap.size + 1 ≤ k ∧ blockOf ao ≠ some k) (Fm.partD p) ⟨none, 0, none, 0, none, 0⟩) := ⟨IsVS.nil _ _, IsBS.nil _ _, IsBS.nil _ _⟩
      have HLt : Hid (w.heap.size + 1 ≤ W1.heap.size) := hS1.rs.cell.lt
      have HNe : Hid (n = es.length) := hS1.rs.len
      clear hOx hpx hS1 hP1
      go_upto_region 50 with (at_builtin; refine wpList_append_v rfl (.tmp 189) (.tmp 192) 26 rfl (w.heap.size + 1) 32 i0 (.agg #[.int .i64 0, .string ⟨#[]⟩, .string ⟨#[]⟩, .int .i64 0, .slice none 0 0, .int .i64 0, .slice none 0 0, .string ⟨#[]⟩, .string ⟨#[]⟩, .string ⟨#[]⟩, .slice none 0 0, .int .i64 0]) 12 184 Tryz.underlying26 Hi.out Hz0.out Hz1.out Hz2.out rfl (by decide) rfl HOx.out rfl (IsV.made _ _ 1 _ _) rfl (one_cellsE _ _ _ HCe.out) (by omega) (by omega) (by rw [World.size_alloc]; have := HLt.out; omega) ?_; intro a3 c3 w4 hO hG hat; have HQ := Hid.mk' (HPx.out a3 c3 w4 (Fm.partD p) _ _ HCe.out HIn.out hO hG hat); have q0 := HQ.out.2.1.cell 0; have q1 := HQ.out.2.1.fz 0; clear hO hG hat)
      have HSt5 := Hid.mk' HQ.out.2.2.2
      clear HOx HPx HIn HCe x0 k0 k1 k2 k3 q0 q1 HQ HLt
      generalize (w4.setCell ⟨w.heap.size, 0, none⟩ (Value.slice a3 (n + 1) c3)) = w5 at *
      have HIr : Hid (∀ W, Below w5.heap.size w5 W → IsB W (some ⟨xb, q - 2, none⟩) (xcap - (q - 2)) (13 :: 10 :: x.drop q)) := fun W hW => by
        have := (HSt5.out.xs.is.stay hW).cut (ao' := some ⟨xb, q - 2, none⟩) (q - 2) xn (by omega) (by rw [HXn.out]; exact Nat.le_refl _) (fun _ => by simp [Addr.add_lit])
        rw [HCr.out] at this
        rw [List.take_of_length_le (by have := congrArg List.length HCr.out; rw [List.length_drop, HXn.out] at this; omega)] at this
        exact this
      have HRl : Hid ((13 :: 10 :: x.drop q : List UInt8).length = xn - (q - 2)) := by
        unfold Hid; rw [← HCr.out, List.length_drop, HXn.out]
      have HFn := Hid.mk' (find_any w5 (some ⟨xb, q - 2, none⟩) (xcap - (q - 2)) (xn - (q - 2)) (13 :: 10 :: x.drop q) ms (HIr.out w5 (Below.refl _ _)) HRl.out (by omega) (by omega))
      have v1 : IntKind.i64.wrap ((q : Int) - 2) = (q : Int) - 2 := wrap_id (by omega) (by omega)
      have v2 : (0 : Int) ≤ (q : Int) - 2 := by omega
      have v3 : ((q : Int) - 2).toNat = q - 2 := by omega
      have v4 : (q : Int) - 2 ≤ xn := by omega
      have v5 : (q : Int) - 2 ≤ xcap := by omega
      have v6 : ¬ (xcap = q - 2) := by omega
      rw [HMs.out] at HFn
      go_upto_region 51 with fail
      obtain ⟨L, hL⟩ : ∃ L, xn - (q - 2) = L := ⟨_, rfl⟩
      obtain ⟨C, hC⟩ : ∃ C, xcap - (q - 2) = C := ⟨_, rfl⟩
      rw [hL] at HRl HFn
      rw [hC] at HFn HIr
      rw [hL, hC]
      have hLC : L ≤ C := by omega
      have hL2 : 2 ≤ L := by omega
      cases hfd : Fm.find m (13 :: 10 :: x.drop q) with
      | none =>
        rw [Fm.ofQ_none m f parts p hfd] at HOf
        have HHl := Hid.mk' (fun W hW => heldOf_any W (some ⟨xb, q - 2, none⟩) C L (13 :: 10 :: x.drop q) ms (HIr.out W hW) HRl.out (by omega) (by omega))
        simp only [HMs.out] at HHl
        have hhl := Sk.held_le_len m (13 :: 10 :: x.drop q)
        have hse : Fm.sent m (13 :: 10 :: x.drop q) = (13 :: 10 :: x.drop q).take (L - Sk.held m (13 :: 10 :: x.drop q)) := by unfold Fm.sent; rw [HRl.out]
        rw [HRl.out] at hhl
        rw [hse] at HOf
        clear hse
        generalize Sk.held m (13 :: 10 :: x.drop q) = hl at *
        go_wp2_with fail
        refine HFn.out.mono ?_
        rintro e w6 ⟨r, rfl, hfi, hw⟩
        subst hw
        have hr := (findIs_of (List.ne_nil_of_length_pos (by omega)) hfi).1 hfd
        subst hr
        clear hfi hfd HFn
        go_wp2_with fail
        refine (HHl.out _ (Below.refl _ _)).mono ?_
        rintro e w7 ⟨rfl, q7, hw⟩
        have HSt7 := Hid.mk' (HSt5.out.stay (drewN_below ⟨q7, hw⟩))
        clear hw HHl
        have u1 : IntKind.i64.wrap ((L : Int) - hl) = (L : Int) - hl := wrap_id (by omega) (by omega)
        go_upto_region 55 with fail
        obtain ⟨En, hEn⟩ : ∃ En : Nat, (L : Int) - hl = En := ⟨L - hl, by omega⟩
        have hEn2 : L - hl = En := by omega
        rw [hEn2] at HOf
        rw [hEn]
        clear hEn u1
        by_cases hgt : 2 < En
        · have tg : decide ((En : Int) > 2) = true := decide_eq_true (by omega)
          have z1 : (2 : Int) ≤ En := by omega
          have z2 : (En : Int) ≤ C := by omega
          have z3 : ¬ C = 2 := by omega
          obtain ⟨hin, hbl⟩ := HSt7.out.piece q En hq2 (by rw [HXn.out]; exact hq) HCr.out hgt (by rw [HXn.out, hL]; omega)
          rw [hC] at hin
          generalize ((13 :: 10 :: x.drop q).take En).drop 2 = Bo at *
          have HBl := Hid.mk' hbl
          have HBp : Hid (0 < Bo.length) := by unfold Hid; omega
          have HSd := Hid.mk' (HSt7.out.stay (below_drew _ _))
          obtain ⟨xs7, hO7, hp7⟩ := HSd.out.pushed (.cells #[.int .i64 2, .string ⟨#[]⟩, .string ⟨#[]⟩, .int .i64 0, .slice none 0 0, .int .i64 0, .slice (some ⟨xb, q, none⟩) (En - 2) (C - 2), .string ⟨#[]⟩, .string ⟨#[]⟩, .string ⟨#[]⟩, .slice none 0 0, .int .i64 0] 32)
          have HO7 := Hid.mk' hO7; have HP7 := Hid.mk' hp7
          have HIn7 : Hid (InE w7.drew (fun k => w.heap.size + 1 ≤ k ∧ blockOf a3 ≠ some k) (bodyD Bo) ⟨none, 0, some ⟨xb, q, none⟩, C - 2, none, 0⟩) := hin.turns (Turns.of_below (S := fun _ => False) (below_drew _ _)) (fun _ _ e => e)
          have HCe7 : Hid ((bodyD Bo).cells ⟨none, 0, some ⟨xb, q, none⟩, C - 2, none, 0⟩ = (#[.int .i64 2, .string ⟨#[]⟩, .string ⟨#[]⟩, .int .i64 0, .slice none 0 0, .int .i64 0, .slice (some ⟨xb, q, none⟩) (En - 2) (C - 2), .string ⟨#[]⟩, .string ⟨#[]⟩, .string ⟨#[]⟩, .slice none 0 0, .int .i64 0] : Array Value).toList) := by
            unfold Hid; rw [← HBl.out]; rfl
          have HNw := Hid.mk' (new_at w7.drew #[.int .i64 2, .string ⟨#[]⟩, .string ⟨#[]⟩, .int .i64 0, .slice none 0 0, .int .i64 0, .slice (some ⟨xb, q, none⟩) (En - 2) (C - 2), .string ⟨#[]⟩, .string ⟨#[]⟩, .string ⟨#[]⟩, .slice none 0 0, .int .i64 0] 32 (k := w7.heap.size) rfl _ HCe7.out.symm)
          have HOc := Hid.mk' (one_cellsE (bodyD Bo) ⟨none, 0, some ⟨xb, q, none⟩, C - 2, none, 0⟩ _ rfl)
          have HN1 : Hid (n + 1 + 1 ≤ maxLen ∧ (n + 1 + 1) * 184 ≤ 140737488355328) := ⟨by unfold maxLen; omega, by omega⟩
          have HLt7 : Hid (w.heap.size + 1 ≤ (w7.drew.alloc (.cells #[.int .i64 2, .string ⟨#[]⟩, .string ⟨#[]⟩, .int .i64 0, .slice none 0 0, .int .i64 0, .slice (some ⟨xb, q, none⟩) (En - 2) (C - 2), .string ⟨#[]⟩, .string ⟨#[]⟩, .string ⟨#[]⟩, .slice none 0 0, .int .i64 0] 32)).heap.size) := by
            unfold Hid; rw [World.size_alloc]; have := HSd.out.rs.cell.lt; omega
          have y0 : w7.cell? ⟨w.heap.size, 0, none⟩ = some (.slice a3 (n + 1) c3) := HSt7.out.rs.cell.cell 0
          have y1 : (w7.alloc (.cells #[.int .i64 2, .string ⟨#[]⟩, .string ⟨#[]⟩, .int .i64 0, .slice none 0 0, .int .i64 0, .slice (some ⟨xb, q, none⟩) (En - 2) (C - 2), .string ⟨#[]⟩, .string ⟨#[]⟩, .string ⟨#[]⟩, .slice none 0 0, .int .i64 0] 32)).cell? ⟨w.heap.size, 0, none⟩ = some (.slice a3 (n + 1) c3) := (HSt7.out.stay ((Below.refl _ _).alloc (Nat.le_refl _) _)).rs.cell.cell 0
          clear hin hbl hO7 hp7 HSd hgt
          go_upto_region 56 with fail
          refine wp_region_noPanic ?_
          go_region_law
            ((refine step_append_lies _ (by rfl) _ _ _ (by rfl) (w.heap.size + 1) 32 i0 (.agg #[.int .i64 0, .string ⟨#[]⟩, .string ⟨#[]⟩, .int .i64 0, .slice none 0 0, .int .i64 0, .slice none 0 0, .string ⟨#[]⟩, .string ⟨#[]⟩, .string ⟨#[]⟩, .slice none 0 0, .int .i64 0]) 12 184 Tryz.underlying26 Hi.out Hz0.out Hz1.out Hz2.out (by rfl) (by decide) (.slice a3 (n + 1) c3) (n + 1) xs7 (by rfl) HO7.out ⟨w7.heap.size, 0, none⟩ 1 1 _ (by rfl) (by rfl) HNw.out HOc.out (by decide) HN1.out.1 HN1.out.2 HLt7.out (w7.heap.size + 1) (by simp) ?_; intro g6 cap6 w8 hown hgrow hat hlt; have HQ := Hid.mk' (HP7.out (some ⟨g6, 0, none⟩) cap6 w8 (bodyD Bo) _ _ rfl HIn7.out hown (by rw [ownBlock_slice] at hgrow; exact hgrow) (by rw [World.size_alloc]; exact lies_at hat)); have q0 := HQ.out.2.1.cell 0; have q1 := HQ.out.2.1.fz 0; clear hown hgrow hat hlt))
          all_goals refine NoPanic.normal ?_
          all_goals
          have HSt9 := Hid.mk' HQ.out.2.2.2
          clear HO7 HP7 HIn7 HCe7 HNw HOc y0 y1 q0 q1 HQ HLt7 HSt7
          generalize (w8.setCell ⟨w.heap.size, 0, none⟩ (Value.slice (some ⟨g6, 0, none⟩) (n + 1 + 1) cap6)) = w9 at *
          have y0 : w9.cell? ⟨w.heap.size, 0, none⟩ = some (.slice (some ⟨g6, 0, none⟩) (n + 1 + 1) cap6) := HSt9.out.rs.cell.cell 0
          have HOf2 : Hid (Fm.of m b = (es ++ [Fm.partD p] ++ [bodyD Bo], 14)) := by
            unfold Hid
            rw [HOf.out, someD_some HBp.out]
            simp
          clear HOf
          go_wp2
          exact HRt.out _ _ _ _ _ _ rfl rfl (FoOut.of HOf2.out HSt9.out.rs.len HSt9.out.rs.want HSt9.out.rs.cell.below)
        · have tg : decide ((En : Int) > 2) = false := decide_eq_false (by omega)
          have y0 : w7.cell? ⟨w.heap.size, 0, none⟩ = some (.slice a3 (n + 1) c3) := HSt7.out.rs.cell.cell 0
          have HOf2 : Hid (Fm.of m b = (es ++ [Fm.partD p], 14)) := by
            unfold Hid
            rw [HOf.out, someD_none (by rw [List.length_drop, List.length_take]; omega)]
          clear HOf
          go_wp2
          exact HRt.out _ _ _ _ _ _ rfl rfl (FoOut.of HOf2.out HSt7.out.rs.len HSt7.out.rs.want HSt7.out.rs.cell.below)
      | some k =>
        rw [Fm.ofQ_some m f parts p hfd] at HOf
        obtain ⟨⟨hk1, hk2⟩, _⟩ := (Fm.find_of (x := 13 :: 10 :: x.drop q) (List.ne_nil_of_length_pos (by omega))).2 k hfd
        rw [HRl.out] at hk1
        have hdd : (13 :: 10 :: x.drop q).drop (k + m.length) = x.drop (q - 2 + (k + m.length)) := by rw [← HCr.out, List.drop_drop]
        rw [hdd] at HOf
        obtain ⟨f', rfl⟩ : ∃ f', f = f' + 1 := ⟨f - 1, by omega⟩
        clear hdd hk2
        go_wp2_with fail
        refine HFn.out.mono ?_
        rintro e w6 ⟨r, rfl, hfi, hw⟩
        subst hw
        have hr := (findIs_of (List.ne_nil_of_length_pos (by omega)) hfi).2 k hfd
        subst hr
        clear hfi hfd HFn
        have HSt6 := Hid.mk' HSt5.out
        have s1 : IntKind.i64.wrap ((k : Int) - 2) = (k : Int) - 2 := wrap_id (by omega) (by omega)
        have s2 : IntKind.i64.wrap ((k : Int) - 2 + ms.size) = (k : Int) - 2 + ms.size := wrap_id (by omega) (by omega)
        have s3 : IntKind.i64.wrap ((q : Int) + ((k : Int) - 2 + ms.size)) = (q : Int) + ((k : Int) - 2 + ms.size) := wrap_id (by omega) (by omega)
        have tk : decide ((k : Int) < 0) = false := decide_eq_false (by omega)
        have HMz := Hid.mk' hmsz
        obtain ⟨En, hEn⟩ : ∃ En, k = En := ⟨_, rfl⟩
        by_cases hgt : 2 < En
        · have tg : decide ((k : Int) > 2) = true := decide_eq_true (by omega)
          subst hEn
          have z1 : (2 : Int) ≤ k := by omega
          have z2 : (k : Int) ≤ C := by omega
          have z3 : ¬ C = 2 := by omega
          obtain ⟨hin, hbl⟩ := HSt6.out.piece q k hq2 (by rw [HXn.out]; exact hq) HCr.out hgt (by rw [HXn.out, hL]; omega)
          rw [hC] at hin
          generalize ((13 :: 10 :: x.drop q).take k).drop 2 = Bo at *
          have HBl := Hid.mk' hbl
          have HBp : Hid (0 < Bo.length) := by unfold Hid; omega
          have HSd := Hid.mk' (HSt6.out.stay (below_drew _ _))
          obtain ⟨xs7, hO7, hp7⟩ := HSd.out.pushed (.cells #[.int .i64 2, .string ⟨#[]⟩, .string ⟨#[]⟩, .int .i64 0, .slice none 0 0, .int .i64 0, .slice (some ⟨xb, q, none⟩) (k - 2) (C - 2), .string ⟨#[]⟩, .string ⟨#[]⟩, .string ⟨#[]⟩, .slice none 0 0, .int .i64 0] 32)
          have HO7 := Hid.mk' hO7; have HP7 := Hid.mk' hp7
          have HIn7 : Hid (InE w6.drew (fun k => w.heap.size + 1 ≤ k ∧ blockOf a3 ≠ some k) (bodyD Bo) ⟨none, 0, some ⟨xb, q, none⟩, C - 2, none, 0⟩) := hin.turns (Turns.of_below (S := fun _ => False) (below_drew _ _)) (fun _ _ e => e)
          have HCe7 : Hid ((bodyD Bo).cells ⟨none, 0, some ⟨xb, q, none⟩, C - 2, none, 0⟩ = (#[.int .i64 2, .string ⟨#[]⟩, .string ⟨#[]⟩, .int .i64 0, .slice none 0 0, .int .i64 0, .slice (some ⟨xb, q, none⟩) (k - 2) (C - 2), .string ⟨#[]⟩, .string ⟨#[]⟩, .string ⟨#[]⟩, .slice none 0 0, .int .i64 0] : Array Value).toList) := by
            unfold Hid; rw [← HBl.out]; rfl
          have HNw := Hid.mk' (new_at w6.drew #[.int .i64 2, .string ⟨#[]⟩, .string ⟨#[]⟩, .int .i64 0, .slice none 0 0, .int .i64 0, .slice (some ⟨xb, q, none⟩) (k - 2) (C - 2), .string ⟨#[]⟩, .string ⟨#[]⟩, .string ⟨#[]⟩, .slice none 0 0, .int .i64 0] 32 (k := w6.heap.size) rfl _ HCe7.out.symm)
          have HOc := Hid.mk' (one_cellsE (bodyD Bo) ⟨none, 0, some ⟨xb, q, none⟩, C - 2, none, 0⟩ _ rfl)
          have HN1 : Hid (n + 1 + 1 ≤ maxLen ∧ (n + 1 + 1) * 184 ≤ 140737488355328) := ⟨by unfold maxLen; omega, by omega⟩
          have HLt7 : Hid (w.heap.size + 1 ≤ (w6.drew.alloc (.cells #[.int .i64 2, .string ⟨#[]⟩, .string ⟨#[]⟩, .int .i64 0, .slice none 0 0, .int .i64 0, .slice (some ⟨xb, q, none⟩) (k - 2) (C - 2), .string ⟨#[]⟩, .string ⟨#[]⟩, .string ⟨#[]⟩, .slice none 0 0, .int .i64 0] 32)).heap.size) := by
            unfold Hid; rw [World.size_alloc]; have := HSd.out.rs.cell.lt; omega
          have y0 : w6.cell? ⟨w.heap.size, 0, none⟩ = some (.slice a3 (n + 1) c3) := HSt6.out.rs.cell.cell 0
          have y1 : (w6.alloc (.cells #[.int .i64 2, .string ⟨#[]⟩, .string ⟨#[]⟩, .int .i64 0, .slice none 0 0, .int .i64 0, .slice (some ⟨xb, q, none⟩) (k - 2) (C - 2), .string ⟨#[]⟩, .string ⟨#[]⟩, .string ⟨#[]⟩, .slice none 0 0, .int .i64 0] 32)).cell? ⟨w.heap.size, 0, none⟩ = some (.slice a3 (n + 1) c3) := (HSt6.out.stay ((Below.refl _ _).alloc (Nat.le_refl _) _)).rs.cell.cell 0
          clear hin hbl hO7 hp7 HSd hgt
          go_upto_region 56 with fail
          refine wp_region_noPanic ?_
          go_region_law
            ((refine step_append_lies _ (by rfl) _ _ _ (by rfl) (w.heap.size + 1) 32 i0 (.agg #[.int .i64 0, .string ⟨#[]⟩, .string ⟨#[]⟩, .int .i64 0, .slice none 0 0, .int .i64 0, .slice none 0 0, .string ⟨#[]⟩, .string ⟨#[]⟩, .string ⟨#[]⟩, .slice none 0 0, .int .i64 0]) 12 184 Tryz.underlying26 Hi.out Hz0.out Hz1.out Hz2.out (by rfl) (by decide) (.slice a3 (n + 1) c3) (n + 1) xs7 (by rfl) HO7.out ⟨w6.heap.size, 0, none⟩ 1 1 _ (by rfl) (by rfl) HNw.out HOc.out (by decide) HN1.out.1 HN1.out.2 HLt7.out (w6.heap.size + 1) (by simp) ?_; intro g6 cap6 w8 hown hgrow hat hlt; have HQ := Hid.mk' (HP7.out (some ⟨g6, 0, none⟩) cap6 w8 (bodyD Bo) _ _ rfl HIn7.out hown (by rw [ownBlock_slice] at hgrow; exact hgrow) (by rw [World.size_alloc]; exact lies_at hat)); have q0 := HQ.out.2.1.cell 0; have q1 := HQ.out.2.1.fz 0; clear hown hgrow hat hlt))
          all_goals refine NoPanic.normal ?_
          all_goals
          have HSt9 := Hid.mk' HQ.out.2.2.2
          clear HO7 HP7 HIn7 HCe7 HNw HOc y0 y1 q0 q1 HQ HLt7 HSt6
          generalize (w8.setCell ⟨w.heap.size, 0, none⟩ (Value.slice (some ⟨g6, 0, none⟩) (n + 1 + 1) cap6)) = w9 at *
          have y0 : w9.cell? ⟨w.heap.size, 0, none⟩ = some (.slice (some ⟨g6, 0, none⟩) (n + 1 + 1) cap6) := HSt9.out.rs.cell.cell 0
          have HOf2 : Hid (Fm.of m b = ((es ++ [Fm.partD p] ++ [bodyD Bo] ++ [Fm.overD]) ++ (Fm.ofM m (f' + 1) (parts + 1) (x.drop (q - 2 + (k + m.length)))).1, (Fm.ofM m (f' + 1) (parts + 1) (x.drop (q - 2 + (k + m.length)))).2)) := by
            unfold Hid
            rw [HOf.out, someD_some HBp.out]
            simp
          clear HOf
          obtain ⟨xs8, hO8, hp8⟩ := HSt9.out.pushed (.cells #[.int .i64 6, .string ⟨#[]⟩, .string ⟨#[]⟩, .int .i64 0, .slice none 0 0, .int .i64 0, .slice none 0 0, .string ⟨#[]⟩, .string ⟨#[]⟩, .string ⟨#[]⟩, .slice none 0 0, .int .i64 0] 32)
          have HO8 := Hid.mk' hO8; have HP8 := Hid.mk' hp8
          have HLt8 : Hid (w.heap.size + 1 ≤ w9.heap.size) := HSt9.out.rs.cell.lt
          have y0 : w9.cell? ⟨w.heap.size, 0, none⟩ = some (.slice (some ⟨g6, 0, none⟩) (n + 1 + 1) cap6) := HSt9.out.rs.cell.cell 0
          clear hO8 hp8
          go_upto_region 60 with (at_builtin; refine wpList_append_v rfl (.tmp 222) (.tmp 224) 26 rfl (w.heap.size + 1) 32 i0 (.agg #[.int .i64 0, .string ⟨#[]⟩, .string ⟨#[]⟩, .int .i64 0, .slice none 0 0, .int .i64 0, .slice none 0 0, .string ⟨#[]⟩, .string ⟨#[]⟩, .string ⟨#[]⟩, .slice none 0 0, .int .i64 0]) 12 184 Tryz.underlying26 Hi.out Hz0.out Hz1.out Hz2.out rfl (by decide) rfl HO8.out rfl (IsV.made _ _ 1 _ _) rfl (one_cellsE Fm.overD ⟨none, 0, none, 0, none, 0⟩ _ rfl) (by omega) (by omega) (by rw [World.size_alloc]; have := HLt8.out; omega) ?_; intro a4 c4 w10 hO hG hat; have HQ8 := Hid.mk' (HP8.out a4 c4 w10 Fm.overD ⟨none, 0, none, 0, none, 0⟩ _ rfl ⟨IsVS.nil _ _, IsBS.nil _ _, IsBS.nil _ _⟩ hO hG hat); have q0 := HQ8.out.2.1.cell 0; have q1 := HQ8.out.2.1.fz 0; clear hO hG hat)
          have HStF := Hid.mk' HQ8.out.2.2.2
          clear HO8 HP8 y0 q0 q1 HQ8 HLt8
          go_wp2
          refine HX.out _ _ _ _ _ _ _ _ _ _ _ _ _ _ _ _ _ _ _ _ _ _ _ _ _ _ _ _ _ _ _ _ _ _ _ _ _ _ _ _ _ _ _ _ _ _ _ _ _ _ _ _ _ _ _ _ _ _ _ _ _ _ _ _ _ _ _ _ _ ?_
          exact ⟨q - 2 + (k + m.length), (n + 1 + 1) + 1, a4, c4, _, f', by go_num, by omega, by omega, h12, HStF.out, by omega, by omega, by rw [HXn.out]; omega, HOf2.out⟩
        · have tg : decide ((k : Int) > 2) = false := decide_eq_false (by omega)
          subst hEn
          have HOf2 : Hid (Fm.of m b = ((es ++ [Fm.partD p] ++ [Fm.overD]) ++ (Fm.ofM m (f' + 1) (parts + 1) (x.drop (q - 2 + (k + m.length)))).1, (Fm.ofM m (f' + 1) (parts + 1) (x.drop (q - 2 + (k + m.length)))).2)) := by
            unfold Hid
            rw [HOf.out, someD_none (by rw [List.length_drop, List.length_take]; omega)]
            simp
          clear HOf
          obtain ⟨xs8, hO8, hp8⟩ := HSt6.out.pushed (.cells #[.int .i64 6, .string ⟨#[]⟩, .string ⟨#[]⟩, .int .i64 0, .slice none 0 0, .int .i64 0, .slice none 0 0, .string ⟨#[]⟩, .string ⟨#[]⟩, .string ⟨#[]⟩, .slice none 0 0, .int .i64 0] 32)
          have HO8 := Hid.mk' hO8; have HP8 := Hid.mk' hp8
          have HLt8 : Hid (w.heap.size + 1 ≤ w6.heap.size) := HSt6.out.rs.cell.lt
          have y0 : w6.cell? ⟨w.heap.size, 0, none⟩ = some (.slice a3 (n + 1) c3) := HSt6.out.rs.cell.cell 0
          clear hO8 hp8
          go_upto_region 60 with (at_builtin; refine wpList_append_v rfl (.tmp 222) (.tmp 224) 26 rfl (w.heap.size + 1) 32 i0 (.agg #[.int .i64 0, .string ⟨#[]⟩, .string ⟨#[]⟩, .int .i64 0, .slice none 0 0, .int .i64 0, .slice none 0 0, .string ⟨#[]⟩, .string ⟨#[]⟩, .string ⟨#[]⟩, .slice none 0 0, .int .i64 0]) 12 184 Tryz.underlying26 Hi.out Hz0.out Hz1.out Hz2.out rfl (by decide) rfl HO8.out rfl (IsV.made _ _ 1 _ _) rfl (one_cellsE Fm.overD ⟨none, 0, none, 0, none, 0⟩ _ rfl) (by omega) (by omega) (by rw [World.size_alloc]; have := HLt8.out; omega) ?_; intro a4 c4 w10 hO hG hat; have HQ8 := Hid.mk' (HP8.out a4 c4 w10 Fm.overD ⟨none, 0, none, 0, none, 0⟩ _ rfl ⟨IsVS.nil _ _, IsBS.nil _ _, IsBS.nil _ _⟩ hO hG hat); have q0 := HQ8.out.2.1.cell 0; have q1 := HQ8.out.2.1.fz 0; clear hO hG hat)
          have HStF := Hid.mk' HQ8.out.2.2.2
          clear HO8 HP8 y0 q0 q1 HQ8 HLt8
          go_wp2
          refine HX.out _ _ _ _ _ _ _ _ _ _ _ _ _ _ _ _ _ _ _ _ _ _ _ _ _ _ _ _ _ _ _ _ _ _ _ _ _ _ _ _ _ _ _ _ _ _ _ _ _ _ _ _ _ _ _ _ _ _ _ _ _ _ _ _ _ _ _ _ _ ?_
          exact ⟨q - 2 + (k + m.length), (n + 1) + 1, a4, c4, _, f', by go_num, by omega, by omega, h12, HStF.out, by omega, by omega, by rw [HXn.out]; omega, HOf2.out⟩
end Go.Proofs.YtjpenioloeplgacGreatDoor
