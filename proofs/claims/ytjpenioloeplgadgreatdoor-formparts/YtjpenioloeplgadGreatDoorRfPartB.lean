/- The document's own answer, walked: PartOf, behind the value's word. -/
import Derived.Test.YtjpenioloeplgadGreatDoorPk22
import Derived.Test.YtjpenioloeplgadGreatDoorMemB
import Derived.Deep.RegionHeldLaw
namespace Go.Proofs.YtjpenioloeplgadGreatDoor
open Go.RowKit

theorem list_back (y : ByteArray) : (⟨y.data.toList.toArray⟩ : ByteArray) = y := by cases y; simp
/-- HexOf, below a bound -/
theorem hex_lt (b : UInt8) : -1 ≤ Ch.hex b.toNat ∧ Ch.hex b.toNat ≤ 15 := Ch.hex_range _ (by omega) (by have := b.toNat_lt; omega)
/-- what the loop keeps, the part beside it -/
structure DpRel (wc : World) (l : List UInt8) (i : Nat) (ao : Option Addr) (cap n : Nat) (wr : World) : Prop where
  own : ∃ bs, OwnB wr wc.heap.size 5 ao cap bs ∧ n = bs.length ∧ n ≤ i ∧ Fm.dec (l.drop 7) = Fm.decs bs (l.drop i)
  below : Below wc.heap.size wc wr
theorem DpRel.more {w wr w2 w3 : World} {l bs : List UInt8} {c : UInt8} {ao ao3 : Option Addr} {cap cap3 n i : Nat} {ob : Obj} (hB : Below w.heap.size w wr) (hO : OwnB wr w.heap.size 5 ao cap bs) (hb2 : Below wr.heap.size wr w2) (hO3 : OwnB w3 w.heap.size 5 ao3 cap3 (bs ++ [c])) (hG3 : (w2.alloc ob).grownBy w3 (blockOf ao)) (hn : n = bs.length) (hi : n + 1 ≤ i) (hd : Fm.dec (l.drop 7) = Fm.decs (bs ++ [c]) (l.drop i)) : DpRel w l i ao3 cap3 (n + 1) w3 := by
  have hB2 := then_ hB hb2
  refine ⟨⟨bs ++ [c], hO3, by rw [List.length_append, hn]; rfl, hi, hd⟩, (hB2.alloc hB2.size ob).grown hG3 (by rw [World.size_alloc]; have := hB2.size; omega) (fun k e => ?_)⟩
  cases ao with
  | none => simp [blockOf] at e
  | some a => simp [blockOf] at e; have := (hO.block a rfl).1; omega

set_option maxRecDepth 100000 in
set_option maxHeartbeats 8000000 in
theorem partOf_main (l : List (ByteArray × ByteArray)) (ao : Option Addr) (cap n : Nat) (w : World) (hl : IsV w ao cap n (pairV l)) (hn : l.length = n) (hN : n ≤ 1000) (hz : ∀ p ∈ l, p.1.size ≤ 2000 ∧ p.2.size ≤ 2000) (xs : List Pm.Par) (hd : Fm.disp (Fd.one (Fd.vals rDispo l)) = .inr xs) :
    Calls Tryz.prog 9 #[.slice ao n cap] w fun e w' => e = .returned (Fm.partV (Fm.partOf xs (Fd.one (Fd.vals rType l)))) ∧ Below w.heap.size w w' := by
  have hR0 : ResP w (w.alloc (.cells #[.string ⟨#[]⟩, .string ⟨#[]⟩, .string ⟨#[]⟩, .slice none 0 0] 27)) := ⟨heap_alloc_new w _, (Below.refl _ _).alloc (Nat.le_refl _) _⟩
  have HO := Hid.mk' (oneOf_any l rDispo ao cap n _ (hl.stay hR0.below) hn (by omega) (fun p hp => (hz p hp).1) (by decide))
  have hd2 := one_short (vs := Fd.vals rDispo l) (fun v hv => by obtain ⟨p, hp, rfl⟩ := Fd.vals_mem hv; exact (hz p hp).2)
  have HV : Hid (∀ W, Below w.heap.size w W → Calls Tryz.prog 33 #[.slice ao n cap, .string rType] W fun e w' => ∃ ao' cap', e = .returned (.slice ao' (Fd.vals rType l).length cap') ∧ OwnV w' W.heap.size 9 1 ao' cap' (Fd.vals rType l).length (strV (Fd.vals rType l)) ∧ Below W.heap.size W w') := fun W hW =>
    valuesOf_any l rType ao cap n W (hl.stay hW) hn (by omega) (fun p hp => (hz p hp).1) (by decide)
  have HR0 := Hid.mk' hR0
  unfold txVal at HO
  have hfew := Fm.disp_few hd
  clear hl hz hR0
  generalize Fd.one (Fd.vals rDispo l) = d at *
  generalize Fd.vals rType l = vs at *
  unfold rDispo at HO
  unfold rType at HV
  obtain ⟨h0, x, hm, hx, rfl⟩ : d.2 = 0 ∧ ∃ x, Pm.media d.1 = .inr x ∧ x.1 = Fm.nForm ∧ x.2 = xs := by
    unfold Fm.disp at hd
    split at hd
    · cases hd
    · rename_i h0
      split at hd
      · cases hd
      · rename_i x hm
        split at hd
        · cases hd
        · rename_i hx
          injection hd with hd
          exact ⟨by simpa using h0, x, hm, by simpa using hx, hd⟩
  have t0 : ((d.2 : Int) != 0) = false := by rw [h0]; rfl
  have HPs := Hid.mk' (fun W => mediaOf_any ⟨d.1.toArray⟩ W (by show d.1.toArray.size ≤ _; rw [List.size_toArray]; omega))
  have hdt : (⟨d.1.toArray⟩ : ByteArray).data.toList = d.1 := rfl
  rw [hdt, hm] at HPs
  generalize (⟨d.1.toArray⟩ : ByteArray) = vt at *
  clear hdt hm h0 hd
  go_enter Tryz.func9, Tryz.ntmps9
  go_wp2_with fail
  refine HO.out.mono ?_
  rintro e w1 ⟨rfl, hb1⟩
  have HR1 := Hid.mk' (HR0.out.stay hb1)
  clear hb1 HO HR0
  go_wp2_with fail
  refine (HPs.out w1).mono ?_
  rintro e w2 ⟨word, ps, ao2, cap2, code, rfl, ⟨rfl, hwd, hps⟩, hO2, hb2⟩
  obtain ⟨x1, x2⟩ := x
  have hwd : word.data.toList = x1 := hwd
  have hps : parL ps = x2 := hps
  have hx : x1 = Fm.nForm := hx
  subst hps
  obtain ⟨n2, hn2⟩ : ∃ n2, ps.length = n2 := ⟨_, rfl⟩
  rw [hn2] at hO2
  rw [hn2]
  have hn8 : n2 ≤ 8 := by rw [← hn2, ← parL_length]; exact hfew.1
  have hvz : ∀ p ∈ ps, p.2.size ≤ 2000 := fun p hp => by
    have := hfew.2 (p.1.data.toList, p.2.data.toList) (List.mem_map.2 ⟨p, hp, rfl⟩)
    have h2 : p.2.data.toList.length ≤ d.1.length := this
    rw [Ch.len_list] at h2; omega
  have tw : (word.toList == [102, 111, 114, 109, 45, 100, 97, 116, 97]) = true := by
    rw [beq_iff_eq, Lib.toList_data, hwd, hx]; rfl
  have hbM : Below w2.heap.size w2 (w2.alloc (.cells #[.string word, .slice ao2 n2 cap2] 61)) := (Below.refl _ _).alloc (Nat.le_refl _) _
  have hR2 := (HR1.out.stay hb2).stay hbM
  have hM2 := heap_alloc_new w2 (.cells #[.string word, .slice ao2 n2 cap2] 61)
  have hV2 := hO2.isV.stay hbM
  have hfar : w.heap.size < w2.heap.size := (Array.getElem?_eq_some_iff.1 (HR1.out.stay hb2).row).1
  have hblk : ∀ a, ao2 = some a → a.block < w2.heap.size := fun a e => (hO2.block a e).2
  have HGn : Hid (Calls Tryz.prog 30 #[.agg #[.string word, .slice ao2 n2 cap2], .string ⟨#[110, 97, 109, 101]⟩] (w2.alloc (.cells #[.string word, .slice ao2 n2 cap2] 61)) fun e w' => ∃ (y : ByteArray) (b : Bool), e = .returned (.tuple #[.string y, .bool b]) ∧ (if b = true then Fm.get Fm.nName (parL ps) = some y.data.toList else Fm.get Fm.nName (parL ps) = none) ∧ Below (w2.alloc (.cells #[.string word, .slice ao2 n2 cap2] 61)).heap.size (w2.alloc (.cells #[.string word, .slice ao2 n2 cap2] 61)) w') := by
    refine (paramOf_any word ps ⟨#[110, 97, 109, 101]⟩ ao2 cap2 n2 _ hV2 hn2 (by omega)).mono ?_
    rintro e w' ⟨rfl, hb⟩
    cases hg : Pm_get ⟨#[110, 97, 109, 101]⟩ ps with
    | none => exact ⟨_, false, rfl, get_no hg, hb⟩
    | some x => exact ⟨_, true, rfl, (get_yes hg).1, hb⟩
  have HR2 := Hid.mk' hR2; have HM2 := Hid.mk' hM2; have HV2 := Hid.mk' hV2; have HVz := Hid.mk' hvz; have HFar := Hid.mk' hfar; have HBlk := Hid.mk' hblk; have HN2 := Hid.mk' hn2
  clear hb2 hO2 hn2 hvz hbM hR2 hM2 hV2 hfew hwd hx hfar hblk HPs HR1
  generalize hW2 : (w2.alloc (.cells #[.string word, .slice ao2 n2 cap2] 61)) = W2 at *
  have m0 : W2.cell? ⟨w2.heap.size, 0, none⟩ = some (.string word) := cell_of_row W2 _ 0 _ _ _ HM2.out
  have m1 : W2.cell? ⟨w2.heap.size, 1, none⟩ = some (.slice ao2 n2 cap2) := cell_of_row W2 _ 1 _ _ _ HM2.out
  have HL2 : Hid (w2.heap.size < W2.heap.size) := (Array.getElem?_eq_some_iff.1 HM2.out).1
  go_wp2_with fail
  refine HGn.out.mono ?_
  rintro e w3 ⟨nm, b, rfl, hgn, hb3⟩
  clear hW2
  cases b
  case false =>
    have hgn : Fm.get Fm.nName (parL ps) = none := hgn
    have HP : Hid (Fm.partOf (parL ps) (Fd.one vs) = .inl 6) := by unfold Hid Fm.partOf; rw [hgn]
    have hR3 := HR2.out.stay hb3
    obtain ⟨c0, c1, c2, c3, f0, f1, f2, f3⟩ := hR3.cells
    have HR3 := Hid.mk' hR3
    clear hgn hb3 hR3 HGn m0 m1
    go_wp2
    refine bodyPost_ret (v := .tuple #[.agg #[.string ⟨#[]⟩, .string ⟨#[]⟩, .string ⟨#[]⟩, .slice none 0 0], .int .i64 6]) (by simp [results, Tryz.results9, go_sem, c0, c1, c2, c3]) rfl ⟨by rw [HP.out]; rfl, ?_⟩
    first | exact HR3.out.below | exact below4 HR3.out.below _ _ _ _
  case true =>
    have hgn : Fm.get Fm.nName (parL ps) = some nm.data.toList := hgn
    have HGN := Hid.mk' hgn
    have hP0 : PoAt w w2.heap.size w3.heap.size word nm ⟨#[]⟩ ⟨#[]⟩ ao2 n2 cap2 ps (w3.alloc (.cells #[.string nm, .string ⟨#[]⟩, .string ⟨#[]⟩, .slice none 0 0] 27)) := by
      have hbP : Below w3.heap.size w3 (w3.alloc (.cells #[.string nm, .string ⟨#[]⟩, .string ⟨#[]⟩, .slice none 0 0] 27)) := (Below.refl _ _).alloc (Nat.le_refl _) _
      have hz3 := hb3.size
      have h2 := HL2.out
      exact ⟨row_stay (row_stay HR2.out.row hb3) hbP, row_stay (row_stay HM2.out hb3) hbP, heap_alloc_new w3 _, (HV2.out.stay hb3).stay hbP, ⟨HFar.out, by omega, fun a e => by have := HBlk.out a e; omega⟩, then_ (then_ HR2.out.below hb3) hbP⟩
    have HP0 := Hid.mk' hP0
    clear hgn hb3 hP0 HGn m0 m1 HR2 HM2 HV2 HFar HBlk HL2
    go_upto_region 13 with fail
    generalize hW4 : (w3.alloc (.cells #[.string nm, .string ⟨#[]⟩, .string ⟨#[]⟩, .slice none 0 0] 27)) = W4 at *
    clear hW4
    generalize w3.heap.size = gp at *
    generalize w2.heap.size = gm at *
    have HGf := Hid.mk' (HP0.out.get HN2.out (by omega) HVz.out ⟨#[102, 105, 108, 101, 110, 97, 109, 101]⟩)
    obtain ⟨m0, m1⟩ := HP0.out.c
    go_wp2_with fail
    refine HGf.out.mono ?_
    rintro e w5 ⟨y, b, rfl, hgf, hb5⟩
    have HP5 := Hid.mk' (HP0.out.stay hb5)
    have HGF := Hid.mk' hgf
    clear hb5 hgf HGf HP0 m0 m1
    go_upto_if 54 with fail
    go_cut [] (fun wd => ∃ f1 : ByteArray, (if b = true then f1 = ⟨(Fm.safe y.data.toList).toArray⟩ else f1 = ⟨#[]⟩) ∧ PoAt w gm gp word nm f1 ⟨#[]⟩ ao2 n2 cap2 ps wd)
    case first =>
      cases b
      · go_wp2
        go_meet
        exact ⟨_, rfl, HP5.out⟩
      · have hyz : y.size ≤ 2000 := HGF.out.2
        have HSn := Hid.mk' (safeName_any y w5 (by omega))
        obtain ⟨p0, p1, p2, p3, pz⟩ := HP5.out.p
        have pz1 := pz 1
        clear pz
        go_wp2_with fail
        refine HSn.out.mono ?_
        rintro e w6 ⟨rfl, hw⟩
        subst hw
        go_wp2
        go_meet
        exact ⟨_, rfl, HP5.out.file _⟩
    case rest =>
      obtain ⟨f1, hf1, hP6⟩ := hcut
      clear HP5
      have HP6 := Hid.mk' hP6
      have HF1 : Hid ((match Fm.get Fm.nFname (parL ps) with | some x => some (Fm.safe x) | none => some []) = some f1.data.toList) := by
        unfold Hid
        cases b
        · have h1 : Fm.get Fm.nFname (parL ps) = none := HGF.out
          have h2 : f1 = ⟨#[]⟩ := hf1
          rw [h1, h2]
        · have h1 : Fm.get Fm.nFname (parL ps) = some y.data.toList := HGF.out.1
          have h2 : f1 = ⟨(Fm.safe y.data.toList).toArray⟩ := hf1
          rw [h1, h2]
      clear hP6 hf1 HGF
      have HGs := Hid.mk' (HP6.out.get HN2.out (by omega) HVz.out ⟨#[102, 105, 108, 101, 110, 97, 109, 101, 42]⟩)
      obtain ⟨m0, m1⟩ := HP6.out.c
      go_wp2_with fail
      refine HGs.out.mono ?_
      rintro e w7 ⟨z, b2, rfl, hgs, hb7⟩
      have HP7 := Hid.mk' (HP6.out.stay hb7)
      have HGS := Hid.mk' hgs
      clear hb7 hgs HGs HP6 m0 m1
      obtain ⟨i0, hi0, hz0, hz1, hz2⟩ := info_parts info_u8
      have Hi := Hid.mk' hi0; have Hz0 := Hid.mk' hz0; have Hz1 := Hid.mk' hz1; have Hz2 := Hid.mk' hz2
      clear hi0 hz0 hz1 hz2
      go_upto_if 63 with fail
      go_cut [14, 15] (fun _ _ wd => ∃ f2 : ByteArray, Fm.file (parL ps) = some f2.data.toList ∧ PoAt w gm gp word nm f2 ⟨#[]⟩ ao2 n2 cap2 ps wd)
      case first =>
        have hlz := Ch.len_list z
        cases b2
        · have hg0 : Fm.get Fm.nFstar (parL ps) = none := HGS.out
          have HFi : Hid (Fm.file (parL ps) = some f1.data.toList) := by unfold Hid Fm.file; rw [hg0]; exact HF1.out
          clear hg0 HGS HF1 hlz
          go_wp2
          go_meet
          exact ⟨_, HFi.out, HP7.out⟩
        · have hg1 : Fm.get Fm.nFstar (parL ps) = some z.data.toList := HGS.out.1
          have hzz : z.size ≤ 2000 := HGS.out.2
          have HFi : Hid (Fm.file (parL ps) = (Fm.coded z.data.toList).map Fm.safe) := by unfold Hid Fm.file; rw [hg1]
          have HBad : Hid (Fm.coded z.data.toList = none → Fm.partOf (parL ps) (Fd.one vs) = .inl 5) := fun hc => by
            have hfi := HFi.out
            rw [hc] at hfi
            unfold Fm.partOf; rw [HGN.out, hfi]; rfl
          clear hg1 HGS HF1
          obtain ⟨c0, c1, c2, c3, f0, f1', f2, f3⟩ := HP7.out.r.cells
          by_cases h7 : z.size < 7
          · have HE : Hid (Fm.partOf (parL ps) (Fd.one vs) = .inl 5) := HBad.out (by unfold Fm.coded; rw [if_pos (Or.inl (by rw [hlz]; exact h7))])
            have t7 : decide ((z.size : Int) < 7) = true := decide_eq_true (by omega)
            clear HBad
            go_wp2
            refine bodyPost_ret (v := .tuple #[.agg #[.string ⟨#[]⟩, .string ⟨#[]⟩, .string ⟨#[]⟩, .slice none 0 0], .int .i64 5]) (by simp [results, Tryz.results9, go_sem, c0, c1, c2, c3]) rfl ⟨by rw [HE.out]; rfl, ?_⟩
            first | exact HP7.out.below | exact below4 HP7.out.below _ _ _ _
          · have t7 : decide ((z.size : Int) < 7) = false := decide_eq_false (by omega)
            have h7' : (7 : Int) ≤ z.size := by omega
            have hx7 : (z.extract 0 7).data.toList = z.data.toList.take 7 := firstB z 7
            have hxs : (z.extract 0 7).size = 7 := by rw [Ch.size_of_list hx7, List.length_take, hlz]; omega
            have HSm := Hid.mk' (small_any (z.extract 0 7) w7 (by rw [hxs]; omega))
            rw [hx7] at HSm
            by_cases hu : Ch.lower (z.data.toList.take 7) = Fm.nUtf
            · have HC : Hid (Fm.coded z.data.toList = Fm.dec (z.data.toList.drop 7)) := by unfold Hid Fm.coded; rw [if_neg (fun e => by rcases e with e | e; rw [hlz] at e; exact h7 e; exact e hu)]
              have tu : ((⟨(Ch.lower (z.data.toList.take 7)).toArray⟩ : ByteArray).toList == [117, 116, 102, 45, 56, 39, 39]) = true := by
                rw [beq_iff_eq, Lib.toList_data]; exact hu
              generalize (⟨(Ch.lower (z.data.toList.take 7)).toArray⟩ : ByteArray) = lo at *
              clear hu hx7 hxs
              go_wp2_with fail
              refine HSm.out.mono ?_
              rintro e w8 ⟨rfl, q8, hw⟩
              have HP8 : Hid (PoAt w gm gp word nm f1 ⟨#[]⟩ ao2 n2 cap2 ps w8) := HP7.out.stay (drewN_below ⟨q8, hw⟩)
              clear hw HSm HP7 c0 c1 c2 c3 f0 f1' f2 f3
              go_wp2
              go_loopw [14, 15] (fun vb vi wr => ∃ (i k : Nat) (ro : Option Addr) (rc : Nat), 7 ≤ i ∧ i ≤ z.size ∧ vi = .int .i64 i ∧ vb = .slice ro k rc ∧ DpRel w8 z.data.toList i ro rc k wr) (fun _ vi _ => z.size - (intOf vi).toNat)
              case atStart => exact ⟨7, 0, none, 0, Nat.le_refl _, by omega, rfl, rfl, ⟨⟨[], OwnB.nil _ _ _, rfl, by omega, (Fm.decs_start _).symm⟩, Below.refl _ _⟩⟩
              case round =>
                obtain ⟨i, k, ro, rc, hi7, his, rfl, rfl, hR⟩ := hrel
                obtain ⟨⟨bs, hO, hk, hki, hdc⟩, hB⟩ := hR
                have HO := Hid.mk' hO; have HK := Hid.mk' hk; have HD := Hid.mk' hdc; have HB := Hid.mk' hB
                have HPr := Hid.mk' (HP8.out.stay hB)
                clear hO hk hdc hB
                by_cases hlt : i < z.size
                · have hlt' : (i : Int) < z.size := by omega
                  have hdr : z.data.toList.drop i = z[i] :: z.data.toList.drop (i + 1) := by rw [List.drop_eq_getElem_cons (by rw [hlz]; exact hlt), byte_at z i hlt]
                  by_cases h37 : z[i] = 37
                  · have t37 : ((z[i].toNat : Int) != 37) = false := by rw [h37]; rfl
                    by_cases hsh : z.size ≤ i + 2
                    · have tsh : decide ((i : Int) + 2 ≥ z.size) = true := decide_eq_true (by omega)
                      have HE : Hid (Fm.partOf (parL ps) (Fd.one vs) = .inl 5) := HBad.out (by rw [HC.out, HD.out, hdr, h37, Fm.decs_short (by rw [List.length_drop, hlz]; omega)])
                      obtain ⟨c0, c1, c2, c3, f0, f1', f2, f3⟩ := HPr.out.r.cells
                      clear HD hdr h37 HBad
                      go_wp2
                      refine bodyPost_ret (v := .tuple #[.agg #[.string ⟨#[]⟩, .string ⟨#[]⟩, .string ⟨#[]⟩, .slice none 0 0], .int .i64 5]) (by simp [results, Tryz.results9, go_sem, c0, c1, c2, c3]) rfl ⟨by rw [HE.out]; rfl, ?_⟩
                      first | exact HPr.out.below | exact below4 HPr.out.below _ _ _ _
                    · have tsh : decide ((i : Int) + 2 ≥ z.size) = false := decide_eq_false (by omega)
                      have hd2 := (twoB z i (by omega)).2
                      rw [h37] at hd2
                      rw [hd2] at HD
                      have i1 : (i : Int) + 1 < z.size := by omega
                      have i2 : (i : Int) + 2 < z.size := by omega
                      have i1n : i + 1 < z.size := by omega
                      have i2n : i + 2 < z.size := by omega
                      have e1 : ((i : Int) + 1).toNat = i + 1 := by omega
                      have e2 : ((i : Int) + 2).toNat = i + 2 := by omega
                      have HXa : Hid (∀ W, Calls Tryz.prog 32 #[.int .u8 (z[i + 1].toNat : Int)] W fun e w' => e = .returned (.int .i64 (Ch.hex (z[i + 1].toNat : Int))) ∧ Below W.heap.size W w') := fun W => hexOf_any z[i + 1] W
                      have HXb : Hid (∀ W, Calls Tryz.prog 32 #[.int .u8 (z[i + 2].toNat : Int)] W fun e w' => e = .returned (.int .i64 (Ch.hex (z[i + 2].toNat : Int))) ∧ Below W.heap.size W w') := fun W => hexOf_any z[i + 2] W
                      have hra := hex_lt z[i + 1]
                      have hrb := hex_lt z[i + 2]
                      have HBd : Hid (¬ (0 ≤ Ch.hex (z[i + 1].toNat : Int) ∧ 0 ≤ Ch.hex (z[i + 2].toNat : Int)) → Fm.partOf (parL ps) (Fd.one vs) = .inl 5) := fun hab => HBad.out (by rw [HC.out, HD.out, Fm.decs_bad hab])
                      have HBy : Hid (∀ (ha : 0 ≤ Ch.hex (z[i + 1].toNat : Int)) (hb : 0 ≤ Ch.hex (z[i + 2].toNat : Int)), ∃ cb : UInt8, (cb.toNat : Int) = 16 * Ch.hex (z[i + 1].toNat : Int) + Ch.hex (z[i + 2].toNat : Int) ∧ Fm.dec (z.data.toList.drop 7) = Fm.decs (bs ++ [cb]) (z.data.toList.drop (i + 3))) := fun ha hb =>
                        ⟨_, (Fm.byte_two ha hb).1, by rw [HD.out, Fm.decs_hex ha hb]⟩
                      generalize hAe : Ch.hex (z[i + 1].toNat : Int) = A at *
                      have HAe := Hid.mk' hAe
                      clear hAe
                      generalize hBe : Ch.hex (z[i + 2].toNat : Int) = B at *
                      have HBe := Hid.mk' hBe
                      clear hBe
                      clear hd2 hdr h37 HD HBad
                      by_cases hA : A < 0
                      · have tA : decide (A < 0) = true := decide_eq_true hA
                        have HE : Hid (Fm.partOf (parL ps) (Fd.one vs) = .inl 5) := HBd.out (by omega)
                        go_wp2_with fail
                        refine (HXa.out _).mono ?_
                        rintro e w9 ⟨rfl, hb9⟩
                        have HP9 := Hid.mk' (HPr.out.stay hb9)
                        obtain ⟨c0, c1, c2, c3, f0, f1', f2, f3⟩ := HP9.out.r.cells
                        clear hb9
                        go_wp2
                        refine bodyPost_ret (v := .tuple #[.agg #[.string ⟨#[]⟩, .string ⟨#[]⟩, .string ⟨#[]⟩, .slice none 0 0], .int .i64 5]) (by simp [results, Tryz.results9, go_sem, c0, c1, c2, c3]) rfl ⟨by rw [HE.out]; rfl, ?_⟩
                        first | exact HP9.out.below | exact below4 HP9.out.below _ _ _ _
                      · have tA : decide (A < 0) = false := decide_eq_false hA
                        by_cases hBn : B < 0
                        · have tB : decide (B < 0) = true := decide_eq_true hBn
                          have HE : Hid (Fm.partOf (parL ps) (Fd.one vs) = .inl 5) := HBd.out (by omega)
                          go_wp2_with fail
                          refine (HXa.out _).mono ?_
                          rintro e w9 ⟨rfl, hb9⟩
                          have HP9 := Hid.mk' (HPr.out.stay hb9)
                          clear hb9
                          go_wp2_with fail
                          refine (HXb.out _).mono ?_
                          rintro e w10 ⟨rfl, hb10⟩
                          have HP10 := Hid.mk' (HP9.out.stay hb10)
                          obtain ⟨c0, c1, c2, c3, f0, f1', f2, f3⟩ := HP10.out.r.cells
                          clear hb10
                          go_wp2
                          refine bodyPost_ret (v := .tuple #[.agg #[.string ⟨#[]⟩, .string ⟨#[]⟩, .string ⟨#[]⟩, .slice none 0 0], .int .i64 5]) (by simp [results, Tryz.results9, go_sem, c0, c1, c2, c3]) rfl ⟨by rw [HE.out]; rfl, ?_⟩
                          first | exact HP10.out.below | exact below4 HP10.out.below _ _ _ _
                        · have tB : decide (B < 0) = false := decide_eq_false hBn
                          obtain ⟨cb, hcb, hdd⟩ := HBy.out (by omega) (by omega)
                          have HDD := Hid.mk' hdd
                          have hcl := cb.toNat_lt
                          clear HBy HBd hdd
                          go_wp2_with fail
                          refine (HXa.out _).mono ?_
                          rintro e w9 ⟨rfl, hb9⟩
                          have HB9 := Hid.mk' hb9
                          clear hb9
                          go_wp2_with fail
                          refine (HXb.out _).mono ?_
                          rintro e w10 ⟨rfl, hb10⟩
                          have HB10 := Hid.mk' (then_ HB9.out hb10)
                          clear hb10 HB9
                          go_upto_region 28 with fail
                          go_cut [14] from 74 to 129 (fun v wd => ∃ (ao3 : Option Addr) (cap3 : Nat), v = .slice ao3 (k + 1 : Nat) cap3 ∧ DpRel w8 z.data.toList (i + 3) ao3 cap3 (k + 1) wd)
                          case first =>
                            have hw1 : IntKind.i64.wrap (16 * A) = 16 * A := wrap_id (by omega) (by omega)
                            have hw2 : IntKind.i64.wrap (16 * A + B) = (cb.toNat : Int) := by rw [wrap_id (by omega) (by omega)]; exact hcb.symm
                            have hwr : IntKind.u8.wrap (cb.toNat : Int) = cb.toNat := by rw [IntKind.wrap_u8]; omega
                            have hnc : k + 1 ≤ 140737488355328 := by omega
                            have b3 : IntKind.i64.wrap ((i : Int) + 1) = (i : Int) + 1 := wrap_id (by omega) (by omega)
                            have b4 : (0 : Int) ≤ (i : Int) + 1 := by omega
                            have b5 : IntKind.i64.wrap ((i : Int) + 2) = (i : Int) + 2 := wrap_id (by omega) (by omega)
                            have b6 : (0 : Int) ≤ (i : Int) + 2 := by omega
                            have b7 : (0 : Int) ≤ (i : Int) + 1 ∧ (i : Int) + 1 < z.size := ⟨b4, i1⟩
                            have b8 : (0 : Int) ≤ (i : Int) + 2 ∧ (i : Int) + 2 < z.size := ⟨b6, i2⟩
                            clear hcb hcl hra hrb tA tB hA hBn tsh t37 hsh b7 b8
                            have HX : Hid (∀ (b : UInt8) (W : World), Calls Tryz.prog 32 #[.int .u8 (b.toNat : Int)] W fun e w' => e = .returned (.int .i64 (Ch.hex (b.toNat : Int))) ∧ Below W.heap.size W w') := fun b W => hexOf_any b W
                            have hAe := HAe.out
                            have hBe := HBe.out
                            clear HXa HXb
                            have hbb : Below wr.heap.size wr w10.drew := HB10.out.trans (below_drew _ _)
                            go_region_held_law (fun _ => True) (trivial) (first
                              | (refine step_append_b (by rfl) (.tmp 112) (.tmp 126) 25 (by rfl) w8.heap.size 5 i0 Tryz.underlying25 Hi.out Hz0.out Hz1.out Hz2.out (l := bs) (l2 := [cb]) (by rfl) HK.out.symm ((HO.out.stay hby).alloc _) (by rfl) (by rfl) (IsB.one _ _ _ _) (by decide) (by omega) (by rw [World.size_alloc]; have := HB.out.size; have := hby.size; omega) ?_; intro ao3 cap3 w3 hO3 hG3; have HO3 := Hid.mk' hO3; have HG3 := Hid.mk' hG3; clear hO3 hG3; (try simp only [Act.put, List.getElem_toArray, List.getElem_cons_succ, List.getElem_cons_zero, List.setIfInBounds_toArray, List.set_cons_zero, List.set_cons_succ]))
                              | (go_at_call 32; refine (HX.out _ _).mono ?_; rintro e w11 ⟨rfl, hb11⟩; have hby := then_ (w := wr) (by assumption) hb11))
                            all_goals
                              go_wp2
                              go_meet
                              exact ⟨ao3, cap3, rfl, DpRel.more HB.out HO.out hby HO3.out HG3.out HK.out (by omega) HDD.out⟩
                          case rest =>
                            obtain ⟨ao3, cap3, rfl, hR3⟩ := hcut
                            have HR3 := Hid.mk' hR3
                            clear hR3
                            go_wp2
                            go_roundw
                            case rel => exact ⟨i + 3, k + 1, ao3, cap3, by omega, by omega, by go_num, rfl, HR3.out⟩
                            case measure => simp [intOf]; omega
                  · have t37 : ((z[i].toNat : Int) != 37) = true := by rw [bne_iff_ne]; intro e; exact h37 (UInt8.toNat_inj.1 (by show _ = 37; omega))
                    rw [hdr, Fm.decs_byte h37] at HD
                    go_wp2_with (at_builtin; refine wpList_append_b rfl (.tmp 84) (.tmp 88) 25 rfl w8.heap.size 5 i0 Tryz.underlying25 Hi.out Hz0.out Hz1.out Hz2.out (l := bs) (l2 := [z[i]]) rfl HK.out.symm (HO.out.alloc _) rfl rfl (IsB.one _ _ _ _) (by omega) (by rw [World.size_alloc]; have := HB.out.size; omega) ?_; intro ao3 cap3 w3 hO3 hG3; have HO3 := Hid.mk' hO3; have HG3 := Hid.mk' hG3; clear hO3 hG3)
                    go_roundw
                    case rel => exact ⟨i + 1, k + 1, ao3, cap3, by omega, by omega, by go_num, rfl, DpRel.more HB.out HO.out (Below.refl _ _) HO3.out HG3.out HK.out (by omega) HD.out⟩
                    case measure => simp [intOf]; omega
                · obtain rfl : i = z.size := by omega
                  have hcv := HO.out.isB.str (P := Tryz.prog) 25 9 5 Tryz.underlying25 Tryz.underlying5 Tryz.underlying9
                  rw [← HK.out] at hcv
                  have HR : Hid (Fm.file (parL ps) = some (Fm.safe bs)) := by
                    unfold Hid
                    rw [HFi.out, HC.out, HD.out, List.drop_eq_nil_of_le (by rw [hlz]; exact Nat.le_refl _), Fm.decs_nil]; rfl
                  have hbl : (⟨bs.toArray⟩ : ByteArray).data.toList = bs := rfl
                  have HSn := Hid.mk' (safeName_any ⟨bs.toArray⟩ wr (by show bs.toArray.size ≤ _; rw [List.size_toArray, ← HK.out]; omega))
                  rw [hbl] at HSn
                  obtain ⟨p0, p1, p2, p3, pz⟩ := HPr.out.p
                  have pz1 := pz 1
                  clear pz
                  go_wp2_with fail
                  refine HSn.out.mono ?_
                  rintro e w9 ⟨rfl, hw⟩
                  subst hw
                  go_wp2
                  go_meet
                  exact ⟨_, HR.out, HPr.out.file _⟩
            · have HE : Hid (Fm.partOf (parL ps) (Fd.one vs) = .inl 5) := HBad.out (by unfold Fm.coded; rw [if_pos (Or.inr hu)])
              have tu : ((⟨(Ch.lower (z.data.toList.take 7)).toArray⟩ : ByteArray).toList == [117, 116, 102, 45, 56, 39, 39]) = false := by
                rw [beq_eq_false_iff_ne, Lib.toList_data]; exact hu
              generalize (⟨(Ch.lower (z.data.toList.take 7)).toArray⟩ : ByteArray) = lo at *
              clear hu hx7 hxs HBad
              go_wp2_with fail
              refine HSm.out.mono ?_
              rintro e w8 ⟨rfl, q8, hw⟩
              have HP8 : Hid (PoAt w gm gp word nm f1 ⟨#[]⟩ ao2 n2 cap2 ps w8) := HP7.out.stay (drewN_below ⟨q8, hw⟩)
              clear hw HSm c0 c1 c2 c3 f0 f1' f2 f3 HP7
              obtain ⟨c0, c1, c2, c3, f0, f1', f2, f3⟩ := HP8.out.r.cells
              go_wp2
              refine bodyPost_ret (v := .tuple #[.agg #[.string ⟨#[]⟩, .string ⟨#[]⟩, .string ⟨#[]⟩, .slice none 0 0], .int .i64 5]) (by simp [results, Tryz.results9, go_sem, c0, c1, c2, c3]) rfl ⟨by rw [HE.out]; rfl, ?_⟩
              first | exact HP8.out.below | exact below4 HP8.out.below _ _ _ _
      case rest =>
        obtain ⟨f2, hf2, hP8⟩ := hcut
        have HP8 := Hid.mk' hP8
        have HPo : Hid (Fm.partOf (parL ps) (Fd.one vs) = if (Fd.one vs).2 = 9 then .inl 9 else .inr ⟨nm.data.toList, f2.data.toList, (Fd.one vs).1⟩) := by
          unfold Hid Fm.partOf; rw [HGN.out, hf2]
        clear hP8 hf2 HP7 HF1 HGS HGN
        have HVs := Hid.mk' (HV.out wc HP8.out.below)
        go_wp2_with fail
        refine HVs.out.mono ?_
        rintro e w9 ⟨va, vc, rfl, hO9, hb9⟩
        have HP9 := Hid.mk' (HP8.out.stay hb9)
        have HO9 := Hid.mk' hO9
        clear hO9 hb9 HVs HP8 HV
        obtain ⟨c0, c1, c2, c3, f0, f1, f2', f3⟩ := HP9.out.r.cells
        obtain hvs | ⟨v, hvs⟩ | ⟨v, v2, r, hvs⟩ : vs = [] ∨ (∃ v, vs = [v]) ∨ ∃ v v2 r, vs = v :: v2 :: r := by
          match vs with
          | [] => exact Or.inl rfl
          | [v] => exact Or.inr (Or.inl ⟨v, rfl⟩)
          | v :: v2 :: r => exact Or.inr (Or.inr ⟨v, v2, r, rfl⟩)
        · have HPo : Hid (Fm.partOf (parL ps) (Fd.one vs) = .inr ⟨nm.data.toList, f2.data.toList, []⟩) := by have := HPo.out; rw [hvs] at this ⊢; exact this
          have hlen : vs.length = 0 := by rw [hvs]; rfl
          rw [hlen]
          clear HO9 hvs
          obtain ⟨p0, p1, p2, p3, pz⟩ := HP9.out.p
          clear pz
          go_wp2
          refine bodyPost_ret (v := .tuple #[.agg #[.string nm, .string f2, .string ⟨#[]⟩, .slice none 0 0], .int .i64 0]) (by simp [results, Tryz.results9, go_sem, c0, c1, c2, c3]) rfl ⟨by rw [HPo.out]; rfl, ?_⟩
          exact below4 HP9.out.below _ _ _ _
        · have HPo : Hid (Fm.partOf (parL ps) (Fd.one vs) = .inr ⟨nm.data.toList, f2.data.toList, v.data.toList⟩) := by have := HPo.out; rw [hvs] at this ⊢; exact this
          have hlen : vs.length = 1 := by rw [hvs]; rfl
          rw [hlen]
          rw [hlen, hvs] at HO9
          clear hvs
          obtain ⟨vb, vo, rfl, _⟩ := HO9.out.isV.lit (by rw [strV_length]; exact Nat.lt_succ_self 0)
          have cv : w9.cell? ⟨vb, vo, none⟩ = some (.string v) := by
            have := HO9.out.isV.cell (strV_at [v] 0 (Nat.lt_succ_self 0))
            rw [Addr.add_lit] at this
            exact this
          have hcv := HO9.out.isV.1
          have hcv : 1 ≤ vc := hcv
          obtain ⟨p0, p1, p2, p3, pz⟩ := HP9.out.p
          have pz2 := pz 2
          clear pz
          go_upto_region 36 with fail
          have HP10 := Hid.mk' (HP9.out.type v)
          clear cv p0 p1 p2 p3 pz2 c0 c1 c2 c3 f0 f1 f2' f3 HP9
          generalize (w9.setCell ⟨gp, 2, none⟩ (.string v)) = w10 at *
          obtain ⟨p0, p1, p2, p3, pz⟩ := HP10.out.p
          obtain ⟨c0, c1, c2, c3, f0, f1, f2', f3⟩ := HP10.out.r.cells
          clear pz
          go_wp2
          refine bodyPost_ret (v := .tuple #[.agg #[.string nm, .string f2, .string v, .slice none 0 0], .int .i64 0]) (by simp [results, Tryz.results9, go_sem, c0, c1, c2, c3]) rfl ⟨by rw [HPo.out]; rfl, ?_⟩
          exact below4 HP10.out.below _ _ _ _
        · have HPo : Hid (Fm.partOf (parL ps) (Fd.one vs) = .inl 9) := by have := HPo.out; rw [hvs] at this ⊢; exact this
          obtain ⟨vn, hvn⟩ : ∃ vn, vs.length = vn := ⟨_, rfl⟩
          have hv2 : 2 ≤ vn := by rw [← hvn, hvs]; simp
          clear hvs
          rw [hvn]
          have tl : decide ((vn : Int) > 1) = true := decide_eq_true (by omega)
          clear HO9 hvn
          go_wp2
          refine bodyPost_ret (v := .tuple #[.agg #[.string ⟨#[]⟩, .string ⟨#[]⟩, .string ⟨#[]⟩, .slice none 0 0], .int .i64 9]) (by simp [results, Tryz.results9, go_sem, c0, c1, c2, c3]) rfl ⟨by rw [HPo.out]; rfl, ?_⟩
          first | exact HP9.out.below | exact below4 HP9.out.below _ _ _ _

/-- PartOf, by plain fields -/
theorem partOf_any (l : List (ByteArray × ByteArray)) (ao : Option Addr) (cap n : Nat) (w : World) (hl : IsV w ao cap n (pairV l)) (hn : l.length = n) (hN : n ≤ 1000) (hz : ∀ p ∈ l, p.1.size ≤ 2000 ∧ p.2.size ≤ 2000) :
    Calls Tryz.prog 9 #[.slice ao n cap] w fun e w' => e = .returned (Fm.partV (Fm.part (Rq.flB l))) ∧ Below w.heap.size w w' := by
  have hp : Fm.part (Rq.flB l) = Fm.partBy (Fd.one (Fd.vals rDispo l)) (Fd.one (Fd.vals rType l)) := by rw [rDispo_is, rType_is]; rfl
  rw [hp, Fm.partBy_disp]
  cases hd : Fm.disp (Fd.one (Fd.vals rDispo l)) with
  | inl c => exact partOf_early l ao cap n w hl hn hN hz c hd
  | inr xs => exact partOf_main l ao cap n w hl hn hN hz xs hd
end Go.Proofs.YtjpenioloeplgadGreatDoor
