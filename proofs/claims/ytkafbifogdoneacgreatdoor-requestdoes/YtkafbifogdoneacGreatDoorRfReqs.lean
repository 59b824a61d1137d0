/- The document's own answer for requests, walked: Requests. -/
import Derived.Test.YtkafbifogdoneacGreatDoorPk28
namespace Go.Proofs.YtkafbifogdoneacGreatDoor
open Go.RowKit

set_option maxRecDepth 100000 in
set_option maxHeartbeats 6000000 in
theorem requests_some (b : List UInt8) (bb oo cap : Nat) (w : World) (hb : IsB w (some ⟨bb, oo, none⟩) cap b) (h9 : b.length ≤ 20000) :
    Calls Tryz.prog 13 #[.slice (some ⟨bb, oo, none⟩) b.length cap] w fun e w' => RsOut w b e w' := by
  have HB := Hid.mk' hb
  have HLn := Hid.mk' (fun k n c ao hk hn hc ha W hW => lineFrom hb h9 k n c ao hk hn hc ha W hW)
  have hcap := hb.1
  clear hb
  go_enter Tryz.func13, Tryz.ntmps13
  go_wp2
  go_loopw [6] (fun va wr => ∃ (p n : Nat) (ao : Option Addr) (ca : Nat) (es : List Rq.Ev) (f : Nat), p ≤ b.length ∧ va = .int .i64 p ∧ R1Rel w b p ao ca n es f wr) (fun va _ => b.length + 1 - (intOf va).toNat)
  case atStart => exact ⟨0, 0, none, 0, [], b.length, Nat.zero_le _, rfl, ⟨RsAt.start w, by simp, by simp [Rq.of], Nat.zero_le _⟩⟩
  case round =>
    obtain ⟨p, n, ao, ca, es, f, hp, rfl, hR⟩ := hrel
    have HR := Hid.mk' hR
    have hn6 : n ≤ 60000 := by have := hR.few; omega
    have c0 : wr.cell? ⟨w.heap.size, 0, none⟩ = some (.slice ao n ca) := hR.rs.cell.cell 0
    clear hR
    go_upto_region 4 with fail
    go_cut [7, 8, 9, 10] from 18 to 187 (fun v7 v8 v9 v10 wd => v7 = .string ⟨(Ln.of (b.drop p)).text.toArray⟩ ∧ v8 = .int .i64 ((Ln.of (b.drop p)).size : Int) ∧ v9 = .bool (Ln.of (b.drop p)).ended ∧ v10 = .int .i64 ((Ln.of (b.drop p)).code : Int) ∧ wd = wr)
    case first =>
      by_cases hac : cap = p
      · have HL1 := Hid.mk' (fun W hW => HLn.out p 0 0 (some ⟨bb, oo, none⟩) hp (by omega) (by omega) (fun e => absurd hac e) W hW)
        have e1 : b.length - p = 0 := by omega
        have e2 : cap - p = 0 := by omega
        generalize Ln.of (b.drop p) = L at *
        subst hac
        go_wp2_with fail
        refine (HL1.out _ HR.out.rs.cell.below).mono ?_
        rintro e w1 ⟨rfl, hw⟩
        subst hw
        go_wp2
        go_meet
        exact ⟨rfl, rfl, rfl, rfl, rfl⟩
      · have HL1 := Hid.mk' (fun W hW => HLn.out p (b.length - p) (cap - p) (some ⟨bb, oo + p, none⟩) hp rfl rfl (fun _ => rfl) W hW)
        generalize Ln.of (b.drop p) = L at *
        go_wp2_with fail
        refine (HL1.out _ HR.out.rs.cell.below).mono ?_
        rintro e w1 ⟨rfl, hw⟩
        subst hw
        go_wp2
        go_meet
        exact ⟨rfl, rfl, rfl, rfl, rfl⟩
    case rest =>
      obtain ⟨rfl, rfl, rfl, rfl, hw⟩ := hcut
      subst hw
      have hle := Ln.of_le (b.drop p)
      have htl := Ln.of_text_le (b.drop p)
      rw [List.length_drop] at hle htl
      have HOf := Hid.mk' HR.out.of_
      by_cases hlc : (Ln.of (b.drop p)).code = 0
      · have HT2 := Hid.mk' (Ln.of_text_200 (b.drop p))
        by_cases hen : (Ln.of (b.drop p)).ended = true
        · have hsz : 0 < (Ln.of (b.drop p)).size := by
            rcases Nat.eq_zero_or_pos (Ln.of (b.drop p)).size with h | h
            · have := Ck.open_of h; rw [hen] at this; cases this.2
            · exact h
          have HDD : Hid (∀ k, (b.drop p).drop k = b.drop (p + k)) := fun k => List.drop_drop
          have hfu := HR.out.f_
          rw [List.length_drop] at hfu
          obtain ⟨f', rfl⟩ : ∃ f', f = f' + 1 := ⟨f - 1, by omega⟩
          by_cases htx : (Ln.of (b.drop p)).text = []
          · rw [Rq.go_empty hlc hen htx, HDD.out] at HOf
            rw [hlc, hen, htx]
            generalize (Ln.of (b.drop p)).size = sz at *
            clear hlc hen htx htl HT2 HDD
            go_wp2
            go_roundw
            case rel => exact ⟨p + sz, n, ao, ca, es, f', by omega, by go_num, ⟨HR.out.rs, by rw [List.length_drop]; omega, HOf.out, by have := HR.out.few; omega⟩⟩
            case measure => simp [intOf]; omega
          · have ttx : ((⟨(Ln.of (b.drop p)).text.toArray⟩ : ByteArray).toList == []) = false := by rw [beq_eq_false_iff_ne, Lib.toList_data]; exact htx
            have HFl := Hid.mk' (fun W => firstLine_any ⟨(Ln.of (b.drop p)).text.toArray⟩ W (by show (Ln.of (b.drop p)).text.toArray.size ≤ _; rw [List.size_toArray]; have := HT2.out; omega))
            have hdat : (⟨(Ln.of (b.drop p)).text.toArray⟩ : ByteArray).data.toList = (Ln.of (b.drop p)).text := rfl
            rw [hdat] at HFl
            cases hfi : Rq.first (Ln.of (b.drop p)).text with
            | inl c =>
              rw [Rq.go_bad hlc hen htx hfi] at HOf
              rw [hfi] at HFl
              unfold Rq.firstVal at HFl
              simp only at HFl
              have hcz : c ≠ 0 := Rq.first_code hfi
              have tc : ((c : Int) != 0) = true := by rw [bne_iff_ne]; omega
              rw [hlc, hen]
              clear hfi hdat htx hlc hen htl HT2 HDD hcz
              generalize (Ln.of (b.drop p)).size = sz at *
              generalize (⟨(Ln.of (b.drop p)).text.toArray⟩ : ByteArray) = tb at *
              go_wp2_with fail
              refine (HFl.out _).mono ?_
              rintro e w1 ⟨rfl, hb1⟩
              have HRs1 := Hid.mk' (HR.out.rs.stay hb1)
              have HF := Hid.mk' (fun ob => reqFail_any w (w1.alloc ob) ao ca n c es (HRs1.out.stay ((Below.refl _ _).alloc (Nat.le_refl _) _)) (by omega))
              clear hb1 HFl c0
              go_wp2_with fail
              refine (HF.out _).mono ?_
              rintro e w2 ⟨a2, c2, rfl, hW, hB⟩
              have HW := Hid.mk' hW; have HBw := Hid.mk' hB
              clear hW hB
              go_wp2
              go_ret2
              exact RsOut.of HOf.out (by rw [List.length_append, ← HR.out.rs.len]; rfl) rfl HW.out HBw.out
            | inr h =>
              rw [Rq.go_first hlc hen htx hfi, HDD.out] at HOf
              rw [hfi] at HFl
              unfold Rq.firstVal at HFl
              simp only at HFl
              have hgd := Rq.first_good HT2.out hfi
              have hf0 := Rq.first_fields hfi
              rw [hlc, hen]
              have HDs : Hid (p + (Ln.of (b.drop p)).size ≤ b.length ∧ 0 < (Ln.of (b.drop p)).size) := ⟨by omega, hsz⟩
              clear hfi hdat htx hlc hen htl HT2 HDD
              generalize (Ln.of (b.drop p)).size = sz at *
              generalize (⟨(Ln.of (b.drop p)).text.toArray⟩ : ByteArray) = tb at *
              go_wp2_with fail
              refine (HFl.out _).mono ?_
              rintro e w1 ⟨rfl, hb1⟩
              have HRs1 := Hid.mk' (HR.out.rs.stay hb1)
              have HFew := Hid.mk' HR.out.few
              have HR2 : Hid (R2Rel w w1 b (p + sz) ao ca n es (f' + 1) (f' + 1) h none 0 0 (w1.alloc (.cells #[.string ⟨h.method.toArray⟩, .string ⟨h.target.toArray⟩, .int .i64 (h.minor : Int), .slice none 0 0, .int .i64 0] 25))) := ⟨⟨OneAt.made _ _ _, (by rw [hf0]; exact OwnV.nil _ _ _ _), by rw [hf0]; rfl⟩, by rw [List.length_drop]; omega, by rw [hf0]; exact HOf.out, hgd.1⟩
              clear hb1 HFl c0 HOf hgd hf0 HR ttx
              go_wp2
              go_loopw [6] (fun va wr => ∃ (q f2 nf : Nat) (hd : Rq.Hd) (fo : Option Addr) (fcap : Nat), p + sz ≤ q ∧ q ≤ b.length ∧ va = .int .i64 q ∧ R2Rel w w1 b q ao ca n es (f' + 1) f2 hd fo fcap nf wr) (fun va _ => b.length + 1 - (intOf va).toNat)
              case atStart => exact ⟨p + sz, f' + 1, 0, h, none, 0, Nat.le_refl _, HDs.out.1, by go_num, HR2.out⟩
              case round =>
                clear HR2
                obtain ⟨q, f2, nf, hd, fo, fcap, hpq, hq, rfl, hR2⟩ := hrel
                have HR2 := Hid.mk' hR2
                clear hR2
                generalize hd = h at *
                have c0 : wr.cell? ⟨w.heap.size, 0, none⟩ = some (.slice ao n ca) := (HRs1.out.stay HR2.out.hb.one.below).cell.cell 0
                have b3 : wr.cell? ⟨w1.heap.size, 3, none⟩ = some (.slice fo nf fcap) := HR2.out.hb.one.cell 3
                have HRs : Hid (RsAt w ao ca n es wr) := HRs1.out.stay HR2.out.hb.one.below
                go_upto_region 14 with fail
                go_cut [7, 8, 9, 10] from 58 to 107 (fun v7 v8 v9 v10 wd => v7 = .string ⟨(Ln.of (b.drop q)).text.toArray⟩ ∧ v8 = .int .i64 ((Ln.of (b.drop q)).size : Int) ∧ v9 = .bool (Ln.of (b.drop q)).ended ∧ v10 = .int .i64 ((Ln.of (b.drop q)).code : Int) ∧ wd = wr)
                case first =>
                  by_cases hac : cap = q
                  · have HL1 := Hid.mk' (fun W hW => HLn.out q 0 0 (some ⟨bb, oo, none⟩) hq (by omega) (by omega) (fun e => absurd hac e) W hW)
                    have e1 : b.length - q = 0 := by omega
                    have e2 : cap - q = 0 := by omega
                    generalize Ln.of (b.drop q) = L at *
                    subst hac
                    go_wp2_with fail
                    refine (HL1.out _ HRs.out.cell.below).mono ?_
                    rintro e w2 ⟨rfl, hw⟩
                    subst hw
                    go_wp2
                    go_meet
                    exact ⟨rfl, rfl, rfl, rfl, rfl⟩
                  · have HL1 := Hid.mk' (fun W hW => HLn.out q (b.length - q) (cap - q) (some ⟨bb, oo + q, none⟩) hq rfl rfl (fun _ => rfl) W hW)
                    generalize Ln.of (b.drop q) = L at *
                    go_wp2_with fail
                    refine (HL1.out _ HRs.out.cell.below).mono ?_
                    rintro e w2 ⟨rfl, hw⟩
                    subst hw
                    go_wp2
                    go_meet
                    exact ⟨rfl, rfl, rfl, rfl, rfl⟩
                case rest =>
                  obtain ⟨rfl, rfl, rfl, rfl, hw⟩ := hcut
                  subst hw
                  have hle2 := Ln.of_le (b.drop q)
                  rw [List.length_drop] at hle2
                  have HOf := Hid.mk' HR2.out.of_
                  have HT2 := Hid.mk' (Ln.of_text_200 (b.drop q))
                  by_cases hlc : (Ln.of (b.drop q)).code = 0
                  · by_cases hen : (Ln.of (b.drop q)).ended = true
                    · have hsz2 : 0 < (Ln.of (b.drop q)).size := by
                        rcases Nat.eq_zero_or_pos (Ln.of (b.drop q)).size with h | h
                        · have := Ck.open_of h; rw [hen] at this; cases this.2
                        · exact h
                      have HDD : Hid (∀ k, (b.drop q).drop k = b.drop (q + k)) := fun k => List.drop_drop
                      have hfu2 := HR2.out.f_
                      rw [List.length_drop] at hfu2
                      obtain ⟨f3, rfl⟩ : ∃ f3, f2 = f3 + 1 := ⟨f2 - 1, by omega⟩
                      by_cases htx : (Ln.of (b.drop q)).text = []
                      · rw [Rq.flds_end hlc hen htx, HDD.out] at HOf
                        have hlo := lengthOf_any ⟨h.method.toArray⟩ ⟨h.target.toArray⟩ h.minor 0 (Rq.flT h.fields) fo fcap wc (by have := HR2.out.hb.row.isV; rw [HR2.out.hb.len] at this; rw [Rq.flT_length]; exact this) (by rw [Rq.flT_length]; exact HR2.out.good.many) (fun x hx => by
                          unfold Rq.flT at hx
                          obtain ⟨y, hy, rfl⟩ := List.mem_map.1 hx
                          have := HR2.out.good.fields y hy
                          refine ⟨?_, ?_⟩
                          · show y.1.toArray.size ≤ _; rw [List.size_toArray]; omega
                          · show y.2.toArray.size ≤ _; rw [List.size_toArray]; omega)
                        rw [Rq.flB_flT, Rq.flT_length, ← HR2.out.hb.len] at hlo
                        have HLo : Hid (Calls Tryz.prog 43 #[.agg #[.string ⟨h.method.toArray⟩, .string ⟨h.target.toArray⟩, .int .i64 (h.minor : Int), .slice fo nf fcap, .int .i64 0]] wc fun e w' => e = .returned (Rq.lenVal (Rq.len h)) ∧ Below wc.heap.size wc w') := hlo
                        have g0 : wc.cell? ⟨w1.heap.size, 0, none⟩ = some (.string ⟨h.method.toArray⟩) := HR2.out.hb.one.cell 0
                        have g1 : wc.cell? ⟨w1.heap.size, 1, none⟩ = some (.string ⟨h.target.toArray⟩) := HR2.out.hb.one.cell 1
                        have g2 : wc.cell? ⟨w1.heap.size, 2, none⟩ = some (.int .i64 (h.minor : Int)) := HR2.out.hb.one.cell 2
                        have g4 : wc.cell? ⟨w1.heap.size, 4, none⟩ = some (.int .i64 0) := HR2.out.hb.one.cell 4
                        rw [hlc, hen, htx]
                        clear hlo htx hlc hen HT2 HDD
                        generalize (Ln.of (b.drop q)).size = sz2 at *
                        cases hln : Rq.len h with
                        | inl c =>
                          have hof2 : Rq.of b = (es ++ [.fail c], false) := by
                            rw [HOf.out]
                            show (es ++ (Rq.goB _ h _).1, (Rq.goB _ h _).2) = _
                            unfold Rq.goB; rw [hln]
                          have HOf2 := Hid.mk' hof2
                          have tc : ((c : Int) != 0) = true := by rw [bne_iff_ne]; have := Rq.len_code hln; omega
                          rw [hln] at HLo
                          unfold Rq.lenVal at HLo
                          simp only at HLo
                          clear HOf hof2 hln
                          go_wp2_with fail
                          refine HLo.out.mono ?_
                          rintro e w2 ⟨rfl, hb2⟩
                          have HF := Hid.mk' (reqFail_any w w2 ao ca n c es (HRs.out.stay hb2) (by omega))
                          clear hb2 HLo
                          go_wp2_with fail
                          refine HF.out.mono ?_
                          rintro e w9 ⟨a9, c9, rfl, hW, hB⟩
                          have HW := Hid.mk' hW; have HBw := Hid.mk' hB
                          clear hW hB
                          go_wp2
                          go_ret2
                          exact RsOut.of HOf2.out (by rw [List.length_append, ← HRs1.out.len]; rfl) rfl HW.out HBw.out
                        | inr k =>
                          rw [hln] at HLo
                          unfold Rq.lenVal at HLo
                          simp only at HLo
                          have HKr := Hid.mk' (Rq.len_range hln)
                          have HLn2 := Hid.mk' hln
                          clear hln
                          go_wp2_with fail
                          refine HLo.out.mono ?_
                          rintro e w2 ⟨rfl, hb2⟩
                          have hO2 := HR2.out.hb.one.stay hb2
                          have k0 : w2.cell? ⟨w1.heap.size, 0, none⟩ = some (.string ⟨h.method.toArray⟩) := hO2.cell 0
                          have k1 : w2.cell? ⟨w1.heap.size, 1, none⟩ = some (.string ⟨h.target.toArray⟩) := hO2.cell 1
                          have k2 : w2.cell? ⟨w1.heap.size, 2, none⟩ = some (.int .i64 (h.minor : Int)) := hO2.cell 2
                          have k3 : w2.cell? ⟨w1.heap.size, 3, none⟩ = some (.slice fo nf fcap) := hO2.cell 3
                          have k4 : w2.cell? ⟨w1.heap.size, 4, none⟩ = some (.int .i64 0) := hO2.cell 4
                          have k4f := hO2.fz 4
                          go_upto_region 31 with fail
                          have hO3 := hO2.put 4 (.int .i64 k)
                          have hRw : OwnV (w2.setCell ⟨w1.heap.size, 4, none⟩ (.int .i64 k)) (w1.heap.size + 1) 51 2 fo fcap nf (pairV (Rq.flT h.fields)) := (HR2.out.hb.row.stay hb2).turns (S := fun x => x = w1.heap.size) (setCells_turns w1.heap.size [.int .i64 k] 4 w2) (fun a e x => by have := (HR2.out.hb.row.block a e).1; omega)
                          have hHl := HR2.out.hb.len
                          have HGd := Hid.mk' HR2.out.good
                          clear hO2 hb2 k0 k1 k2 k3 k4 k4f HLo g0 g1 g2 g4 b3 c0 HRs HR2
                          generalize (w2.setCell ⟨w1.heap.size, 4, none⟩ (Value.int .i64 k)) = w3 at *
                          have hRs3 := HRs1.out.stay hO3.below
                          obtain ⟨xs, hOx, hpx⟩ := hRs3.push (.cells #[.int .i64 1, .string ⟨h.method.toArray⟩, .string ⟨h.target.toArray⟩, .int .i64 (h.minor : Int), .slice fo nf fcap, .int .i64 k, .slice none 0 0, .string ⟨#[]⟩, .string ⟨#[]⟩, .string ⟨#[]⟩, .slice none 0 0, .int .i64 0] 32)
                          have HOx := Hid.mk' hOx; have HPx := Hid.mk' hpx
                          have HIn : Hid (InE w3 (fun x => w.heap.size + 1 ≤ x ∧ blockOf ao ≠ some x) (Rq.Ev.head { h with length := k }).d ⟨fo, fcap, none, 0, none, 0⟩) := ⟨⟨by
                            have := hRw.isV
                            rw [hHl, ← Rq.flT_length] at this
                            exact this, fun _ a e => ⟨by have h1 := (hRw.block a e).1; have h2 := HRs1.out.cell.lt; omega, fun f => by have h1 := (hRw.block a e).1; have h2 := (HRs1.out.want.row a.block f).2; omega⟩⟩, IsBS.nil _ _, IsBS.nil _ _⟩
                          have HCe : Hid ((Rq.Ev.head { h with length := k }).d.cells ⟨fo, fcap, none, 0, none, 0⟩ = #[.int .i64 1, .string ⟨h.method.toArray⟩, .string ⟨h.target.toArray⟩, .int .i64 (h.minor : Int), .slice fo nf fcap, .int .i64 k, .slice none 0 0, .string ⟨#[]⟩, .string ⟨#[]⟩, .string ⟨#[]⟩, .slice none 0 0, .int .i64 0].toList) := by
                            unfold Hid
                            simp [Rq.Ev.d, EvD.cells, Rq.flT_length, hHl]
                          have HLt3 : Hid (w.heap.size + 1 ≤ w3.heap.size) := hRs3.cell.lt
                          have x0 : w3.cell? ⟨w.heap.size, 0, none⟩ = some (.slice ao n ca) := hRs3.cell.cell 0
                          have k0 : w3.cell? ⟨w1.heap.size, 0, none⟩ = some (.string ⟨h.method.toArray⟩) := hO3.cell 0
                          have k1 : w3.cell? ⟨w1.heap.size, 1, none⟩ = some (.string ⟨h.target.toArray⟩) := hO3.cell 1
                          have k2 : w3.cell? ⟨w1.heap.size, 2, none⟩ = some (.int .i64 (h.minor : Int)) := hO3.cell 2
                          have k3 : w3.cell? ⟨w1.heap.size, 3, none⟩ = some (.slice fo nf fcap) := hO3.cell 3
                          have k4 : w3.cell? ⟨w1.heap.size, 4, none⟩ = some (.int .i64 k) := hO3.cell 4
                          have HNe : Hid (n = es.length) := HRs1.out.len
                          clear hHl
                          obtain ⟨i0, hi0, hz0, hz1, hz2⟩ := info_parts info_ev
                          have Hi := Hid.mk' hi0; have Hz0 := Hid.mk' hz0; have Hz1 := Hid.mk' hz1; have Hz2 := Hid.mk' hz2
                          clear hi0 hz0 hz1 hz2 hOx hpx hRs3 hO3 hRw HRs1
                          go_upto_if 128 with (at_builtin; refine wpList_append_v rfl (.tmp 122) (.tmp 125) 26 rfl (w.heap.size + 1) 32 i0 (.agg #[.int .i64 0, .string ⟨#[]⟩, .string ⟨#[]⟩, .int .i64 0, .slice none 0 0, .int .i64 0, .slice none 0 0, .string ⟨#[]⟩, .string ⟨#[]⟩, .string ⟨#[]⟩, .slice none 0 0, .int .i64 0]) 12 184 Tryz.underlying26 Hi.out Hz0.out Hz1.out Hz2.out rfl (by decide) rfl HOx.out rfl (IsV.made _ _ 1 _ _) rfl (one_cells _ _ _ HCe.out) (by omega) (by omega) (by rw [World.size_alloc]; have := HLt3.out; omega) ?_; intro a3 c3 w4 hO hG hat; have HQ := Hid.mk' (HPx.out a3 c3 w4 (.head { h with length := k }) _ _ HCe.out HIn.out hO hG hat); have q0 := HQ.out.2.1.cell 0; have q1 := HQ.out.2.1.fz 0; clear hO hG hat)
                          have HRs5 := Hid.mk' HQ.out.2.2.2
                          have HB5w : Hid (Below w.heap.size w (w4.setCell ⟨w.heap.size, 0, none⟩ (.slice a3 (n + 1) c3))) := HQ.out.2.2.2.cell.below
                          clear HOx HPx HIn HCe x0 k0 k1 k2 k3 k4 q0 q1 HLt3 HQ
                          generalize (w4.setCell ⟨w.heap.size, 0, none⟩ (Value.slice a3 (n + 1) c3)) = w5 at *
                          have hlo : q + sz2 ≤ b.length := by omega
                          have hlb : (b.drop (q + sz2)).length = b.length - (q + sz2) := List.length_drop
                          clear hlb
                          obtain ⟨j0, hj0, hy0, hy1, hy2⟩ := info_parts info_u8
                          have Hj := Hid.mk' hj0; have Hy0 := Hid.mk' hy0; have Hy1 := Hid.mk' hy1; have Hy2 := Hid.mk' hy2
                          clear hj0 hy0 hy1 hy2
                          go_cut [6, 10, 15, 16] from 18 to 187 (fun v6 v10 v15 v16 wd => ∃ (p3 : Nat) (body : List UInt8) (bo : Option Addr) (bc : Nat) (ov : Bool) (c nb : Nat), v6 = .int .i64 p3 ∧ v10 = .int .i64 (c : Int) ∧ v15 = .slice bo nb bc ∧ v16 = .bool ov ∧ nb = body.length ∧ q + sz2 ≤ p3 ∧ (ov = true → c = 0 → p3 ≤ b.length) ∧ R3Rel w w5 b (f' + 1) a3 c3 (n + 1) (es ++ [.head { h with length := k }]) p3 body bo bc ov c wd)
                          case first =>
                            refine reqBody_any b bb oo cap w w5 q sz2 f' n k a3 c3 es h HB.out h9 hlo HB5w.out HRs5.out HLn2.out HOf.out _ _ _ _ _ _ _ _ _ _ _ _ _ _ _ _ _ _ _ _ _ _ _ _ _ _ _ _ _ _ _ _ _ _ _ _ _ _ _ _ _ _ _ _ _ _ _ _ _ _ _ _ _ _ _ _ _ _ _ _ _ _ _ _ _ _ _ _ _ _ _ _ _ _ _ _ _ _ _ _ _ _ _ _ _ _ _ _ _ _ _ _ _ _ _ _ _ _ _ _ _ _ _ _ _ _ _ _ _ _ _ _ _ _ _ _ _ _ _ _ _ _ _ _ _ _ _ _ _ _ _ _ _ _ _ _ _ _ _ _ _ _ _ _ _ _ _ _ _ _ _ _ _ _ _ _ _ _ _ _ _ _ _ _ _ _ _ _ _ _ _ _ _ _ _ _ _ _ _ _ _ _ ?_
                            intro w6 y6 y8 y10 y15 y16 y129 y130 y131 y132 y133 y134 y135 y136 y137 y138 y139 y140 y141 y142 y143 y144 y145 y146 y147 y148 y149 y150 y151 y152 y153 y154 y155 y156 y157 y158 y159 y160 y161 y162 y163 y164 y165 hy
                            simp only [Exit.then]
                            first
                              | (go_step; go_meet; exact hy)
                              | (apply_assumption; go_meet; exact hy)
                              | (rename_i hK; refine hK _ _ ?_; go_meet; exact hy)
                          case rest =>
                            obtain ⟨p3, body, bo, bc, ov, c, nb, rfl, rfl, rfl, rfl, hnb, hp3, hp3b, hR3⟩ := hcut
                            have HR3 := Hid.mk' hR3
                            have x0 : wc.cell? ⟨w.heap.size, 0, none⟩ = some (.slice a3 (n + 1) c3) := hR3.rs.cell.cell 0
                            have x0f := hR3.rs.cell.fz 0
                            have HNb := Hid.mk' hnb
                            have HInB : Hid (body ≠ [] → InE wc (fun x => w.heap.size + 1 ≤ x ∧ blockOf a3 ≠ some x) (Rq.Ev.body body).d ⟨none, 0, bo, bc, none, 0⟩) := fun _ => ⟨IsVS.nil _ _, hR3.bytes.mono (fun x _ e => ⟨by have := HRs5.out.cell.lt; omega, fun f => by have := (HRs5.out.want.row x f).2; omega⟩), IsBS.nil _ _⟩
                            obtain ⟨xs7, hO7, hp7⟩ := hR3.rs.push (.cells #[.int .i64 2, .string ⟨#[]⟩, .string ⟨#[]⟩, .int .i64 0, .slice none 0 0, .int .i64 0, .slice bo nb bc, .string ⟨#[]⟩, .string ⟨#[]⟩, .string ⟨#[]⟩, .slice none 0 0, .int .i64 0] 32)
                            have HO7 := Hid.mk' hO7; have HP7 := Hid.mk' hp7
                            have HLt7 : Hid (w.heap.size + 1 ≤ wc.heap.size) := hR3.rs.cell.lt
                            clear hR3 hnb hO7 hp7 HRs5
                            go_upto_if 168 with fail
                            go_cut [166] from 18 to 187 (fun _ wd => ∃ a4 c4 n4, n4 ≤ n + 2 ∧ RsAt w a4 c4 n4 (es ++ [.head { h with length := k }] ++ Rq.some_ body) wd)
                            case first =>
                              by_cases hbe : body = []
                              · have hcz : ¬ 0 < nb := by rw [HNb.out, hbe]; simp
                                have tb0 : decide ((nb : Int) > 0) = false := decide_eq_false (by omega)
                                have HBe := Hid.mk' hbe
                                clear hbe
                                go_wp2
                                go_meet
                                exact ⟨a3, c3, n + 1, by omega, by rw [HBe.out]; show RsAt _ _ _ _ (_ ++ []) _; rw [List.append_nil]; exact HR3.out.rs⟩
                              · have hcp : 0 < nb := by rw [HNb.out]; exact List.length_pos_iff.2 hbe
                                have tb0 : decide ((nb : Int) > 0) = true := decide_eq_true (by omega)
                                have HIn7 := Hid.mk' (HInB.out hbe)
                                have HCe7 : Hid ((Rq.Ev.body body).d.cells ⟨none, 0, bo, bc, none, 0⟩ = (#[.int .i64 2, .string ⟨#[]⟩, .string ⟨#[]⟩, .int .i64 0, .slice none 0 0, .int .i64 0, .slice bo nb bc, .string ⟨#[]⟩, .string ⟨#[]⟩, .string ⟨#[]⟩, .slice none 0 0, .int .i64 0] : Array Value).toList) := by
                                  unfold Hid; rw [HNb.out]; rfl
                                have HSm : Hid (Rq.some_ body = [.body body]) := by unfold Hid Rq.some_; rw [if_neg hbe]
                                clear hbe
                                go_wp2_with (at_builtin; refine wpList_append_v rfl (.tmp 169) (.tmp 172) 26 rfl (w.heap.size + 1) 32 i0 (.agg #[.int .i64 0, .string ⟨#[]⟩, .string ⟨#[]⟩, .int .i64 0, .slice none 0 0, .int .i64 0, .slice none 0 0, .string ⟨#[]⟩, .string ⟨#[]⟩, .string ⟨#[]⟩, .slice none 0 0, .int .i64 0]) 12 184 Tryz.underlying26 Hi.out Hz0.out Hz1.out Hz2.out rfl (by decide) rfl HO7.out rfl (IsV.made _ _ 1 _ _) rfl (one_cells _ _ _ HCe7.out) (by omega) (by omega) (by rw [World.size_alloc]; have := HLt7.out; omega) ?_; intro a4 c4 w8 hO hG hat; have HQ8 := Hid.mk' (HP7.out a4 c4 w8 (.body body) _ _ HCe7.out HIn7.out hO hG hat); have q0 := HQ8.out.2.1.cell 0; have q1 := HQ8.out.2.1.fz 0; clear hO hG hat)
                                go_meet
                                exact ⟨a4, c4, n + 1 + 1, by omega, by rw [HSm.out]; exact HQ8.out.2.2.2⟩
                            case rest =>
                              obtain ⟨a4, c4, n4, hn4, hR4⟩ := hcut
                              have HOf5 := Hid.mk' HR3.out.of_
                              have HR4 := Hid.mk' hR4
                              have y0 : wc.cell? ⟨w.heap.size, 0, none⟩ = some (.slice a4 n4 c4) := hR4.cell.cell 0
                              clear hR4 HR3 HInB HO7 HP7 x0 x0f
                              generalize es ++ [Rq.Ev.head { h with length := k }] ++ Rq.some_ body = es4 at *
                              by_cases hc : c = 0
                              · subst hc
                                cases ov with
                                | false =>
                                  have hof6 : Rq.of b = (es4, true) := by rw [HOf5.out]; simp [Rq.rest]
                                  have HOf6 := Hid.mk' hof6
                                  clear hof6
                                  go_wp2
                                  go_ret2
                                  exact RsOut.of HOf6.out HR4.out.len rfl HR4.out.want HR4.out.cell.below
                                | true =>
                                  have hp3' := hp3b rfl rfl
                                  have hof6 : Rq.of b = (es4 ++ [.fin] ++ (Rq.go (f' + 1) (b.drop p3)).1, (Rq.go (f' + 1) (b.drop p3)).2) := by rw [HOf5.out]; simp [Rq.rest]
                                  have HOf6 := Hid.mk' hof6
                                  obtain ⟨xs9, hO9, hp9⟩ := HR4.out.push (.cells #[.int .i64 3, .string ⟨#[]⟩, .string ⟨#[]⟩, .int .i64 0, .slice none 0 0, .int .i64 0, .slice none 0 0, .string ⟨#[]⟩, .string ⟨#[]⟩, .string ⟨#[]⟩, .slice none 0 0, .int .i64 0] 32)
                                  have HO9 := Hid.mk' hO9; have HP9 := Hid.mk' hp9
                                  have HLt9 : Hid (w.heap.size + 1 ≤ wc.heap.size) := HR4.out.cell.lt
                                  clear hof6 hO9 hp9
                                  go_wp2_with (at_builtin; refine wpList_append_v rfl (.tmp 184) (.tmp 186) 26 rfl (w.heap.size + 1) 32 i0 (.agg #[.int .i64 0, .string ⟨#[]⟩, .string ⟨#[]⟩, .int .i64 0, .slice none 0 0, .int .i64 0, .slice none 0 0, .string ⟨#[]⟩, .string ⟨#[]⟩, .string ⟨#[]⟩, .slice none 0 0, .int .i64 0]) 12 184 Tryz.underlying26 Hi.out Hz0.out Hz1.out Hz2.out rfl (by decide) rfl HO9.out rfl (IsV.made _ _ 1 _ _) rfl (one_cells Rq.Ev.fin.d ⟨none, 0, none, 0, none, 0⟩ _ rfl) (by omega) (by omega) (by rw [World.size_alloc]; have := HLt9.out; omega) ?_; intro a5 c5 w10 hO hG hat; have HQ10 := Hid.mk' (HP9.out a5 c5 w10 .fin ⟨none, 0, none, 0, none, 0⟩ _ rfl ⟨IsVS.nil _ _, IsBS.nil _ _, IsBS.nil _ _⟩ hO hG hat); have q0 := HQ10.out.2.1.cell 0; have q1 := HQ10.out.2.1.fz 0; clear hO hG hat)
                                  go_roundw
                                  case rel => exact ⟨p3, n4 + 1, a5, c5, es4 ++ [.fin], f', by omega, rfl, ⟨HQ10.out.2.2.2, by rw [List.length_drop]; omega, HOf6.out, by have := HFew.out; omega⟩⟩
                                  case measure => simp [intOf]; omega
                              · have hof6 : Rq.of b = (es4 ++ [.fail c], false) := by rw [HOf5.out]; simp [Rq.rest, hc]
                                have HOf6 := Hid.mk' hof6
                                have tc : ((c : Int) != 0) = true := by rw [bne_iff_ne]; omega
                                have HF := Hid.mk' (reqFail_any w wc a4 c4 n4 c es4 HR4.out (by omega))
                                clear hof6 hc
                                go_wp2_with fail
                                refine HF.out.mono ?_
                                rintro e w9 ⟨a9, c9, rfl, hW, hB⟩
                                have HW := Hid.mk' hW; have HBw := Hid.mk' hB
                                clear hW hB
                                go_wp2
                                go_ret2
                                exact RsOut.of HOf6.out (by rw [List.length_append, ← HR4.out.len]; rfl) rfl HW.out HBw.out
                      · have ttx : ((⟨(Ln.of (b.drop q)).text.toArray⟩ : ByteArray).toList == []) = false := by rw [beq_eq_false_iff_ne, Lib.toList_data]; exact htx
                        by_cases h16 : h.fields.length = 16
                        · rw [Rq.flds_many hlc hen htx h16] at HOf
                          have t16 : ((nf : Int) == 16) = true := by rw [beq_iff_eq]; have := HR2.out.hb.len; omega
                          rw [hlc, hen]
                          have HF := Hid.mk' (reqFail_any w wc ao ca n 8 es HRs.out (by omega))
                          clear htx hlc hen h16 HT2 HDD
                          generalize (Ln.of (b.drop q)).size = sz2 at *
                          generalize (⟨(Ln.of (b.drop q)).text.toArray⟩ : ByteArray) = tb2 at *
                          go_wp2_with fail
                          refine HF.out.mono ?_
                          rintro e w9 ⟨a9, c9, rfl, hW, hB⟩
                          have HW := Hid.mk' hW; have HBw := Hid.mk' hB
                          clear hW hB
                          go_wp2
                          go_ret2
                          exact RsOut.of HOf.out (by rw [List.length_append, ← HRs1.out.len]; rfl) rfl HW.out HBw.out
                        · have t16 : ((nf : Int) == 16) = false := by rw [beq_eq_false_iff_ne]; have := HR2.out.hb.len; omega
                          have HFd := Hid.mk' (fun W => fieldOf_any ⟨(Ln.of (b.drop q)).text.toArray⟩ W (by show (Ln.of (b.drop q)).text.toArray.size ≤ _; rw [List.size_toArray]; have := HT2.out; omega))
                          have hdat : (⟨(Ln.of (b.drop q)).text.toArray⟩ : ByteArray).data.toList = (Ln.of (b.drop q)).text := rfl
                          rw [hdat] at HFd
                          unfold Fd.val at HFd
                          by_cases hfc : (Fd.of (Ln.of (b.drop q)).text).code = 0
                          · rw [Rq.flds_more hlc hen htx h16 hfc, HDD.out] at HOf
                            have HGd := Hid.mk' (HR2.out.good.more _ HT2.out h16)
                            rw [hlc, hen]
                            rw [hfc] at HFd
                            clear htx hlc hen h16 HT2 HDD hdat hfc
                            generalize (Ln.of (b.drop q)).size = sz2 at *
                            generalize (Fd.of (Ln.of (b.drop q)).text) = fd at *
                            generalize (⟨(Ln.of (b.drop q)).text.toArray⟩ : ByteArray) = tb2 at *
                            go_wp2_with fail
                            refine (HFd.out _).mono ?_
                            rintro e w2 ⟨rfl, hb2⟩
                            have hnf16 : nf ≤ 16 := by have h1 := HR2.out.hb.len; have h2 := HR2.out.good.many; omega
                            have hbA : Below wc.heap.size wc ((w2.alloc (.cells #[.string ⟨fd.name.toArray⟩, .string ⟨fd.value.toArray⟩] 51)).alloc (.cells #[.string ⟨fd.name.toArray⟩, .string ⟨fd.value.toArray⟩] 51)) := then_ (then_ hb2 ((Below.refl _ _).alloc (Nat.le_refl _) _)) ((Below.refl _ _).alloc (Nat.le_refl _) _)
                            have HBA := Hid.mk' hbA
                            have b3' : (w2.alloc (.cells #[.string ⟨fd.name.toArray⟩, .string ⟨fd.value.toArray⟩] 51)).cell? ⟨w1.heap.size, 3, none⟩ = some (.slice fo nf fcap) := ((HR2.out.hb.one.stay hb2).stay ((Below.refl _ _).alloc (Nat.le_refl _) _)).cell 3
                            have HRow := Hid.mk' ((HR2.out.hb.row.stay hb2).stay ((Below.refl _ _).alloc (Nat.le_refl _) (.cells #[.string ⟨fd.name.toArray⟩, .string ⟨fd.value.toArray⟩] 51)))
                            have HLt : Hid (w1.heap.size + 1 ≤ w2.heap.size) := (HR2.out.hb.one.stay hb2).lt
                            obtain ⟨i1, hi1, hw0, hw1, hw2⟩ := info_parts info_fld
                            have Hi1 := Hid.mk' hi1; have Hw0 := Hid.mk' hw0; have Hw1 := Hid.mk' hw1; have Hw2 := Hid.mk' hw2
                            clear hi1 hw0 hw1 hw2 hb2 hbA b3 HFd c0
                            go_wp2_with (at_builtin; refine wpList_append_v rfl (.tmp 103) (.tmp 105) 23 rfl (w1.heap.size + 1) 51 i1 (.agg #[.string ⟨#[]⟩, .string ⟨#[]⟩]) 2 32 Tryz.underlying23 Hi1.out Hw0.out Hw1.out Hw2.out rfl (by decide) rfl (HRow.out.alloc _) rfl (IsV.made_at _ _ 1 _ _ (by simp)) rfl (fun u hu => by simp at hu; rcases hu with rfl | rfl <;> rfl) (by omega) (by omega) (by rw [World.size_alloc, World.size_alloc]; have := HLt.out; omega) ?_; intro a4 c4 w4 hO4 hG4 hat4; have HM := Hid.mk' (HR2.out.hb.more HBA.out hO4 hG4); have m3 := HM.out.1.cell 3; have m3f := HM.out.1.fz 3; clear hO4 hG4 hat4)
                            go_roundw
                            case rel => exact ⟨q + sz2, f3, nf + 1, _, a4, c4, by omega, by omega, by go_num, ⟨HM.out.2, by rw [List.length_drop]; omega, by rw [Rq.goH_fields]; exact HOf.out, HGd.out⟩⟩
                            case measure => simp [intOf]; omega
                          · rw [Rq.flds_bad hlc hen htx h16 hfc] at HOf
                            have tfc : (((Fd.of (Ln.of (b.drop q)).text).code : Int) != 0) = true := by rw [bne_iff_ne]; omega
                            rw [hlc, hen]
                            clear htx hlc hen h16 HT2 HDD hdat hfc
                            generalize (Ln.of (b.drop q)).size = sz2 at *
                            generalize (Fd.of (Ln.of (b.drop q)).text) = fd at *
                            generalize (⟨(Ln.of (b.drop q)).text.toArray⟩ : ByteArray) = tb2 at *
                            go_wp2_with fail
                            refine (HFd.out _).mono ?_
                            rintro e w2 ⟨rfl, hb2⟩
                            have HF := Hid.mk' (fun ob => reqFail_any w (w2.alloc ob) ao ca n fd.code es ((HRs.out.stay hb2).stay ((Below.refl _ _).alloc (Nat.le_refl _) _)) (by omega))
                            clear hb2 HFd
                            go_wp2_with fail
                            refine (HF.out _).mono ?_
                            rintro e w9 ⟨a9, c9, rfl, hW, hB⟩
                            have HW := Hid.mk' hW; have HBw := Hid.mk' hB
                            clear hW hB
                            go_wp2
                            go_ret2
                            exact RsOut.of HOf.out (by rw [List.length_append, ← HRs1.out.len]; rfl) rfl HW.out HBw.out
                    · have hen' : (Ln.of (b.drop q)).ended = false := by simpa using hen
                      rw [Rq.flds_open hlc hen'] at HOf
                      rw [hlc, hen']
                      clear hen hen' hlc HT2
                      generalize (Ln.of (b.drop q)).size = sz2 at *
                      generalize (⟨(Ln.of (b.drop q)).text.toArray⟩ : ByteArray) = tb2 at *
                      go_wp2
                      go_ret2
                      have hof2 : Rq.of b = (es, true) := by rw [HOf.out, Rq.goH, List.append_nil]
                      exact RsOut.of hof2 HRs.out.len rfl HRs.out.want HRs.out.cell.below
                  · rw [Rq.flds_code hlc] at HOf
                    have tlc : (((Ln.of (b.drop q)).code : Int) != 0) = true := by rw [bne_iff_ne]; omega
                    generalize Ln.of (b.drop q) = L at *
                    obtain ⟨t2, sz2, en2, lc2⟩ := L
                    simp only at *
                    generalize (⟨t2.toArray⟩ : ByteArray) = tb2 at *
                    have HF := Hid.mk' (reqFail_any w wc ao ca n lc2 es HRs.out (by omega))
                    clear hlc
                    go_wp2_with fail
                    refine HF.out.mono ?_
                    rintro e w9 ⟨a9, c9, rfl, hW, hB⟩
                    have HW := Hid.mk' hW; have HBw := Hid.mk' hB
                    clear hW hB
                    go_wp2
                    go_ret2
                    exact RsOut.of HOf.out (by rw [List.length_append, ← HRs1.out.len]; rfl) rfl HW.out HBw.out
        · have hen' : (Ln.of (b.drop p)).ended = false := by simpa using hen
          rw [Rq.go_open hlc hen'] at HOf
          rw [hlc, hen']
          have tb : decide (b.drop p ≠ []) = decide (p < b.length) := by
            rw [decide_eq_decide]
            constructor
            · intro h; have := List.length_pos_iff.2 h; rw [List.length_drop] at this; omega
            · intro h e; have := congrArg List.length e; rw [List.length_drop] at this; simp at this; omega
          have HTb := Hid.mk' tb
          clear hen hen' hlc HT2 tb
          generalize (Ln.of (b.drop p)).size = sz at *
          generalize (⟨(Ln.of (b.drop p)).text.toArray⟩ : ByteArray) = tb at *
          go_wp2
          go_ret2
          have hof2 : Rq.of b = (es, decide (p < b.length)) := by rw [HOf.out, List.append_nil, HTb.out]
          exact RsOut.of hof2 HR.out.rs.len rfl HR.out.rs.want HR.out.rs.cell.below
      · rw [Rq.go_code hlc] at HOf
        have tlc : (((Ln.of (b.drop p)).code : Int) != 0) = true := by rw [bne_iff_ne]; omega
        generalize Ln.of (b.drop p) = L at *
        obtain ⟨t, sz, en, lc⟩ := L
        simp only at *
        generalize (⟨t.toArray⟩ : ByteArray) = tb at *
        have HF := Hid.mk' (reqFail_any w wc ao ca n lc es HR.out.rs (by omega))
        clear hlc
        go_wp2_with fail
        refine HF.out.mono ?_
        rintro e w1 ⟨a2, c2, rfl, hW, hB⟩
        have HW := Hid.mk' hW; have HBw := Hid.mk' hB
        clear hW hB
        go_wp2
        go_ret2
        exact RsOut.of HOf.out (by rw [List.length_append, ← HR.out.rs.len]; rfl) rfl HW.out HBw.out
theorem requests_any (b : List UInt8) (ab : Option Addr) (cap : Nat) (w : World) (hb : IsB w ab cap b) (h9 : b.length ≤ 20000) :
    Calls Tryz.prog 13 #[.slice ab b.length cap] w fun e w' => ∃ a2 c2, e = .returned (.tuple #[.slice a2 (Rq.of b).1.length c2, .bool (Rq.of b).2]) ∧ IsEs w' a2 c2 ((Rq.of b).1.map Rq.Ev.d) ∧ Below w.heap.size w w' := by
  by_cases h0 : 0 < b.length
  · obtain ⟨bb, oo, rfl, _⟩ := hb.lit h0
    refine (requests_some b bb oo cap w hb h9).mono ?_
    rintro e w' ⟨a2, c2, he, hw, hB⟩
    exact ⟨a2, c2, he, hw.isEs, hB⟩
  · obtain rfl : b = [] := List.eq_nil_of_length_eq_zero (by omega)
    exact requests_none ab cap w hb
end Go.Proofs.YtkafbifogdoneacGreatDoor
