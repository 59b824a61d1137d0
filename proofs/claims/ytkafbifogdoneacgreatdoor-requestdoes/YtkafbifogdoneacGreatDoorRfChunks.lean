/- The document's own answer, walked: ChunksOf. -/
import Derived.Test.YtkafbifogdoneacGreatDoorPk15
import Derived.Deep.DeepCutAuto
namespace Go.Proofs.YtkafbifogdoneacGreatDoor
open Go.RowKit

set_option maxRecDepth 100000 in
set_option maxHeartbeats 4000000 in
theorem chunksOf_some (b : List UInt8) (bb oo cap : Nat) (w : World) (hb : IsB w (some ⟨bb, oo, none⟩) cap b) (h9 : b.length ≤ 20000) :
    Calls Tryz.prog 44 #[.slice (some ⟨bb, oo, none⟩) b.length cap] w fun e w' => ChOwn w b e w' := by
  have HB := Hid.mk' hb
  have HLn := Hid.mk' (fun k n c ao hk hn hc ha W hW => lineFrom hb h9 k n c ao hk hn hc ha W hW)
  have hcap := hb.1
  clear hb
  obtain ⟨i0, hi0, hz0, hz1, hz2⟩ := info_parts info_u8
  have Hi := Hid.mk' hi0; have Hz0 := Hid.mk' hz0; have Hz1 := Hid.mk' hz1; have Hz2 := Hid.mk' hz2
  clear hi0 hz0 hz1 hz2
  go_enter Tryz.func44, Tryz.ntmps44
  go_wp2
  go_loopw [6, 7] (fun vb va wr => ∃ (p n : Nat) (ao : Option Addr) (ca : Nat) (body : List UInt8) (f : Nat), p ≤ b.length ∧ vb = .slice ao n ca ∧ va = .int .i64 p ∧ C1Rel w b p ao ca n body f wr) (fun _ va _ => b.length + 1 - (intOf va).toNat)
  case atStart => exact ⟨0, 0, none, 0, [], b.length, Nat.zero_le _, rfl, rfl, ⟨OwnB.nil _ _ _, rfl, by omega, by simp, by simp [Ck.shift, Ck.of], Below.refl _ _⟩⟩
  case round =>
    obtain ⟨p, n, ao, ca, body, f, hp, rfl, rfl, hR⟩ := hrel
    have HR := Hid.mk' hR
    have hn4 := hR.n_
    clear hR
    have hle := Ln.of_le (b.drop p)
    have htl := Ln.of_text_le (b.drop p)
    rw [List.length_drop] at hle htl
    have hkind := Ln.of_kind (b.drop p)
    by_cases hbad : (Ln.of (b.drop p)).code ≠ 0 ∨ (Ln.of (b.drop p)).ended = false
    · have hof := HR.out.of_
      rw [Ck.go_bad hbad] at hof
      have HOf := Hid.mk' hof
      clear hof hkind
      by_cases hac : cap = p
      · have HL1 := Hid.mk' (fun W hW => HLn.out p 0 0 (some ⟨bb, oo, none⟩) hp (by omega) (by omega) (fun e => absurd hac e) W hW)
        have hnil : b.drop p = [] := List.drop_eq_nil_of_le (by omega)
        rw [hnil] at HL1 HOf
        have e0 : Ln.of [] = Ln.open_ := rfl
        rw [e0] at HL1 HOf
        unfold Ln.open_ at HL1 HOf
        simp only at HL1 HOf
        have e1 : b.length - p = 0 := by omega
        have e2 : cap - p = 0 := by omega
        clear hbad hle htl hnil e0
        subst hac
        go_wp2_with fail
        refine (HL1.out _ HR.out.below).mono ?_
        rintro e w1 ⟨rfl, hw⟩
        subst hw
        go_wp2
        (try simp only [Exit.inBlock, Exit.then])
        refine bodyPost_ret (results_tmp4 rfl _ _ _) rfl ?_
        exact ChOwn.of body (cap + 0) false 0 ao ca n _ (by rw [HOf.out]; simp [Ck.shift]) HR.out.len (by omega) rfl HR.out.own HR.out.below
      · have HL1 := Hid.mk' (fun W hW => HLn.out p (b.length - p) (cap - p) (some ⟨bb, oo + p, none⟩) hp rfl rfl (fun _ => rfl) W hW)
        generalize Ln.of (b.drop p) = L at *
        obtain ⟨t, sz, en, lc⟩ := L
        simp only at *
        generalize (⟨t.toArray⟩ : ByteArray) = tb at *
        by_cases hlc : lc = 0
        · subst hlc
          have hen : en = false := by
            rcases hbad with h | h
            · exact absurd rfl h
            · exact h
          subst hen
          clear hbad
          go_wp2_with fail
          refine (HL1.out _ HR.out.below).mono ?_
          rintro e w1 ⟨rfl, hw⟩
          subst hw
          go_wp2
          (try simp only [Exit.inBlock, Exit.then])
          refine bodyPost_ret (results_tmp4 rfl _ _ _) rfl ?_
          exact ChOwn.of body (p + sz) false 0 ao ca n _ (by rw [HOf.out]; simp [Ck.shift]) HR.out.len (by omega) rfl HR.out.own HR.out.below
        · have tlc : ((lc : Int) != 0) = true := by rw [bne_iff_ne]; omega
          clear hbad
          go_wp2_with fail
          refine (HL1.out _ HR.out.below).mono ?_
          rintro e w1 ⟨rfl, hw⟩
          subst hw
          go_wp2
          (try simp only [Exit.inBlock, Exit.then])
          refine bodyPost_ret (results_tmp4 rfl _ _ _) rfl ?_
          exact ChOwn.of body (p + sz) false lc ao ca n _ (by rw [HOf.out]; simp [Ck.shift]) HR.out.len (by omega) rfl HR.out.own HR.out.below
    · have hlc : (Ln.of (b.drop p)).code = 0 := by
        rcases Nat.eq_zero_or_pos (Ln.of (b.drop p)).code with h | h
        · exact h
        · exact absurd (Or.inl (by omega)) hbad
      have hen : (Ln.of (b.drop p)).ended = true := by
        cases h : (Ln.of (b.drop p)).ended
        · exact absurd (Or.inr h) hbad
        · rfl
      have hsz : 0 < (Ln.of (b.drop p)).size := by
        rcases Nat.eq_zero_or_pos (Ln.of (b.drop p)).size with h | h
        · have := Ck.open_of h; rw [hen] at this; cases this.2
        · exact h
      clear hkind
      have hac : ¬ cap = p := by omega
      have HL1 := Hid.mk' (fun W hW => HLn.out p (b.length - p) (cap - p) (some ⟨bb, oo + p, none⟩) hp rfl rfl (fun _ => rfl) W hW)
      rw [hlc, hen] at HL1
      have HBad := Hid.mk' hbad
      clear hbad hlc hen
      have hdd : ∀ k, (b.drop p).drop k = b.drop (p + k) := fun k => List.drop_drop
      have HDD := Hid.mk' hdd
      clear hdd
      generalize hT : (Ln.of (b.drop p)).text = t at *
      generalize hS : (Ln.of (b.drop p)).size = sz at *
      have HT := Hid.mk' hT; have HS := Hid.mk' hS
      clear hT hS
      have htz : (⟨t.toArray⟩ : ByteArray).size = t.length := by show t.toArray.size = _; simp
      have htd : (⟨t.toArray⟩ : ByteArray).data.toList = t := rfl
      obtain ⟨capq, wq, hq, hBq, hzq, hIq⟩ := bytes_of (P := Tryz.prog) wr ⟨t.toArray⟩ 9 22 5 Tryz.underlying9 Tryz.underlying22 Tryz.underlying5
      have HFi := Hid.mk' (find_any wq _ capq (⟨t.toArray⟩ : ByteArray).size _ ⟨#[59]⟩ hIq (by rw [htd, htz]) (by decide) (by omega))
      rw [htd] at HFi
      have HBq := Hid.mk' (then_ HR.out.below hBq)
      generalize htb : (⟨t.toArray⟩ : ByteArray) = tb at *
      have HRq : Hid (OwnB wq w.heap.size 5 ao ca body) := HR.out.own.stay hBq
      generalize wr.heap.size = qb at hq HFi
      have HTz := Hid.mk' htz; have HTd := Hid.mk' htd
      clear hBq hzq hIq htb htz htd
      go_wp2_with fail
      refine (HL1.out _ HR.out.below).mono ?_
      rintro e w1 ⟨rfl, hw⟩
      subst hw
      clear HL1
      go_wp2_with fail
      refine HFi.out.mono ?_
      rintro e w2 ⟨r, rfl, hfi, hw⟩
      subst hw
      clear HFi hq
      have hfo := find_one hfi
      clear hfi
      go_upto_if 49 with fail
      go_cut [8] from 22 to 122 (fun v wd => ∃ s : ByteArray, v = .string s ∧ s.data.toList = t.take (Fd.at_ 59 t) ∧ s.size ≤ 20000 ∧ wd = w2)
      case first =>
        rcases hfo with ⟨rfl, hk⟩ | ⟨hr, hk⟩
        · have HK := Hid.mk' hk
          clear hk
          go_wp2
          go_meet
          exact ⟨tb, rfl, by rw [HK.out, List.take_length, HTd.out], by rw [HTz.out]; omega, rfl⟩
        · have e1 : (0 : Int) ≤ r := by omega
          obtain ⟨k, rfl⟩ : ∃ k : Nat, r = k := ⟨Fd.at_ 59 t, hr⟩
          have hk' : Fd.at_ 59 t = k := by omega
          have e2 : (k : Int) ≤ tb.size := by rw [HTz.out]; omega
          have HK := Hid.mk' hk'
          clear hk hr hk'
          go_wp2
          go_meet
          exact ⟨tb.extract 0 k, rfl, by rw [HK.out, Lib.extract_data, HTd.out]; simp, by have := HTz.out; simp; omega, rfl⟩
      case rest =>
        obtain ⟨s, rfl, hs, hsl, hw⟩ := hcut
        subst hw
        clear hfo HTz HTd
        have HTr := Hid.mk' (trimmed_any s wc (by unfold maxLen; omega))
        have hso := size_of t s hs
        have htl2 := trimS_le s.data.toList
        rw [Ch.len_list] at htl2
        have HN := Hid.mk' (fun W => hexNumberOf_any ⟨(Lib.trimS s.data.toList Ch.ws).toArray⟩ W (by show (Lib.trimS _ _).toArray.size ≤ maxLen; rw [List.size_toArray]; unfold maxLen; omega))
        have hdat : (⟨(Lib.trimS s.data.toList Ch.ws).toArray⟩ : ByteArray).data.toList = Lib.trimS s.data.toList Ch.ws := rfl
        rw [hdat, ← hso] at HN
        have hnat := size_nat t
        clear hso hdat hs htl2 hsl
        generalize (⟨(Lib.trimS s.data.toList Ch.ws).toArray⟩ : ByteArray) = tv at *
        generalize hz : (Ck.size t).1 = z at *
        generalize hok : (Ck.size t).2 = ok at *
        have HZ := Hid.mk' hz; have HOk := Hid.mk' hok
        clear hz hok
        have hz0 := hnat.1
        have hz1 := hnat.2
        clear hnat
        cases ok
        · go_wp2_with fail
          refine HTr.out.mono ?_
          rintro e w3 ⟨rfl, hw⟩
          subst hw
          go_wp2_with fail
          refine (HN.out _).mono ?_
          rintro e w4 ⟨rfl, hb4⟩
          have HB4 := Hid.mk' hb4
          clear hb4
          go_wp2
          (try simp only [Exit.inBlock, Exit.then])
          refine bodyPost_ret (results_tmp4 rfl _ _ _) rfl ?_
          have h := HR.out.of_
          rw [Ck.go_none HBad.out (by rw [HT.out]; exact HOk.out), HS.out] at h
          exact ChOwn.of body (p + sz) false 7 ao ca n _ (by rw [h]; simp [Ck.shift]) HR.out.len (by omega) rfl (HRq.out.stay HB4.out) (then_ HBq.out HB4.out)
        · obtain ⟨k, rfl⟩ : ∃ k : Nat, z = k := ⟨z.toNat, by omega⟩
          have HZ' : Hid ((Ck.size (Ln.of (b.drop p)).text).1.toNat = k) := by unfold Hid; rw [HT.out, HZ.out]; simp
          have HOk' : Hid ((Ck.size (Ln.of (b.drop p)).text).2 = true) := by unfold Hid; rw [HT.out]; exact HOk.out
          clear HZ HOk
          by_cases h4 : 4000 < n + k
          · have t4 : decide ((n : Int) + k > 4000) = true := decide_eq_true (by omega)
            go_wp2_with fail
            refine HTr.out.mono ?_
            rintro e w3 ⟨rfl, hw⟩
            subst hw
            go_wp2_with fail
            refine (HN.out _).mono ?_
            rintro e w4 ⟨rfl, hb4⟩
            have HB4 := Hid.mk' hb4
            clear hb4
            go_wp2
            (try simp only [Exit.inBlock, Exit.then])
            refine bodyPost_ret (results_tmp4 rfl _ _ _) rfl ?_
            have h := HR.out.of_
            rw [Ck.go_long HBad.out HOk'.out (by rw [HZ'.out]; exact h4), HS.out] at h
            exact ChOwn.of body (p + sz) false 4 ao ca n _ (by rw [h]; simp [Ck.shift]) HR.out.len (by omega) rfl (HRq.out.stay HB4.out) (then_ HBq.out HB4.out)
          · have t4 : decide ((n : Int) + k > 4000) = false := decide_eq_false (by omega)
            by_cases hk0 : k = 0
            · subst hk0
              have hof := HR.out.of_
              rw [Ck.go_zero HBad.out HOk'.out (by rw [HZ'.out]; exact h4) HZ'.out, HS.out, Ck.shift_shift, List.append_nil, List.drop_drop] at hof
              have HOf := Hid.mk' hof
              have HLen := Hid.mk' HR.out.len; have HFf := Hid.mk' HR.out.f_
              clear hof HR
              go_wp2_with fail
              refine HTr.out.mono ?_
              rintro e w3 ⟨rfl, hw⟩
              subst hw
              go_wp2_with fail
              refine (HN.out _).mono ?_
              rintro e w4 ⟨rfl, hb4⟩
              have HB4 := Hid.mk' hb4
              have HC2 : Hid (C2Rel w b (p + sz) 0 ao ca n body f w4) := ⟨HRq.out.stay hb4, HLen.out, by omega, by have := HFf.out; rw [List.length_drop] at this ⊢; omega, HOf.out, then_ HBq.out hb4⟩
              clear hb4 HN HTr HOf HLen HFf HRq HBq HT HS HZ' HOk' HBad t4 h4
              have hq0 : p + sz ≤ b.length := by omega
              go_wp2
              go_loopw [7, 15] (fun va vk wr2 => ∃ (q m f2 : Nat), q ≤ b.length ∧ va = .int .i64 q ∧ vk = .int .i64 m ∧ C2Rel w b q m ao ca n body f2 wr2) (fun va _ _ => b.length + 1 - (intOf va).toNat)
              case atStart => exact ⟨p + sz, 0, f, hq0, by go_num, rfl, HC2.out⟩
              case round =>
                clear HC2 HB4 hq0 hle hsz hac htl hp hn4
                obtain ⟨q, m, f2, hq, rfl, rfl, hR⟩ := hrel
                have HR := Hid.mk' hR
                have hm16 := hR.k_
                clear hR
                have hle := Ln.of_le (b.drop q)
                have htl := Ln.of_text_le (b.drop q)
                rw [List.length_drop] at hle htl
                by_cases hbad : (Ln.of (b.drop q)).code ≠ 0 ∨ (Ln.of (b.drop q)).ended = false
                · have hof := HR.out.of_
                  rw [Ck.trail_bad hbad] at hof
                  have HOf := Hid.mk' hof
                  clear hof
                  by_cases hac : cap = q
                  · have HL1 := Hid.mk' (fun W hW => HLn.out q 0 0 (some ⟨bb, oo, none⟩) hq (by omega) (by omega) (fun e => absurd hac e) W hW)
                    have hnil : b.drop q = [] := List.drop_eq_nil_of_le (by omega)
                    rw [hnil] at HL1 HOf
                    have e0 : Ln.of [] = Ln.open_ := rfl
                    rw [e0] at HL1 HOf
                    unfold Ln.open_ at HL1 HOf
                    simp only at HL1 HOf
                    have e1 : b.length - q = 0 := by omega
                    clear hbad hle htl hnil e0
                    subst hac
                    go_wp2_with fail
                    refine (HL1.out _ HR.out.below).mono ?_
                    rintro e w1 ⟨rfl, hw⟩
                    subst hw
                    go_wp2
                    (try simp only [Exit.inBlock, Exit.then])
                    refine bodyPost_ret (results_tmp4 rfl _ _ _) rfl ?_
                    exact ChOwn.of body (cap + 0) false 0 ao ca n _ (by rw [HOf.out]; simp [Ck.shift]) HR.out.len (by omega) rfl HR.out.own HR.out.below
                  · have HL1 := Hid.mk' (fun W hW => HLn.out q (b.length - q) (cap - q) (some ⟨bb, oo + q, none⟩) hq rfl rfl (fun _ => rfl) W hW)
                    generalize Ln.of (b.drop q) = L at *
                    obtain ⟨t, sz, en, lc⟩ := L
                    simp only at *
                    generalize (⟨t.toArray⟩ : ByteArray) = tb at *
                    by_cases hlc : lc = 0
                    · subst hlc
                      have hen : en = false := by
                        rcases hbad with h | h
                        · exact absurd rfl h
                        · exact h
                      subst hen
                      clear hbad
                      go_wp2_with fail
                      refine (HL1.out _ HR.out.below).mono ?_
                      rintro e w1 ⟨rfl, hw⟩
                      subst hw
                      go_wp2
                      (try simp only [Exit.inBlock, Exit.then])
                      refine bodyPost_ret (results_tmp4 rfl _ _ _) rfl ?_
                      exact ChOwn.of body (q + sz) false 0 ao ca n _ (by rw [HOf.out]; simp [Ck.shift]) HR.out.len (by omega) rfl HR.out.own HR.out.below
                    · have tlc : ((lc : Int) != 0) = true := by rw [bne_iff_ne]; omega
                      clear hbad
                      go_wp2_with fail
                      refine (HL1.out _ HR.out.below).mono ?_
                      rintro e w1 ⟨rfl, hw⟩
                      subst hw
                      go_wp2
                      (try simp only [Exit.inBlock, Exit.then])
                      refine bodyPost_ret (results_tmp4 rfl _ _ _) rfl ?_
                      exact ChOwn.of body (q + sz) false lc ao ca n _ (by rw [HOf.out]; simp [Ck.shift]) HR.out.len (by omega) rfl HR.out.own HR.out.below
                · obtain ⟨hlc, hen, hsz⟩ := line_good hbad
                  have hac : ¬ cap = q := by omega
                  have HL1 := Hid.mk' (fun W hW => HLn.out q (b.length - q) (cap - q) (some ⟨bb, oo + q, none⟩) hq rfl rfl (fun _ => rfl) W hW)
                  rw [hlc, hen] at HL1
                  have HBad := Hid.mk' hbad
                  have HFd := Hid.mk' (fun W => fieldOf_any ⟨(Ln.of (b.drop q)).text.toArray⟩ W (by show (Ln.of (b.drop q)).text.toArray.size ≤ _; rw [List.size_toArray]; omega))
                  have hdat : (⟨(Ln.of (b.drop q)).text.toArray⟩ : ByteArray).data.toList = (Ln.of (b.drop q)).text := rfl
                  rw [hdat] at HFd
                  unfold Fd.val at HFd
                  have hof := HR.out.of_
                  clear hbad hlc hen hdat
                  by_cases htx : (Ln.of (b.drop q)).text = []
                  · rw [Ck.trail_end HBad.out htx] at hof
                    rw [htx] at HL1
                    have HOf := Hid.mk' hof
                    clear hof HFd HBad
                    generalize (Ln.of (b.drop q)).size = sz at *
                    go_wp2_with fail
                    refine (HL1.out _ HR.out.below).mono ?_
                    rintro e w1 ⟨rfl, hw⟩
                    subst hw
                    go_wp2
                    (try simp only [Exit.inBlock, Exit.then])
                    refine bodyPost_ret (results_tmp4 rfl _ _ _) rfl ?_
                    exact ChOwn.of body (q + sz) true 0 ao ca n _ (by rw [HOf.out]; simp [Ck.shift]) HR.out.len (by omega) rfl HR.out.own HR.out.below
                  · have ttx : ((⟨(Ln.of (b.drop q)).text.toArray⟩ : ByteArray).toList == []) = false := by rw [beq_eq_false_iff_ne, Lib.toList_data]; exact htx
                    by_cases h16 : m = 16
                    · rw [Ck.trail_many HBad.out htx h16] at hof
                      have HOf := Hid.mk' hof
                      clear hof HFd HBad htx
                      subst h16
                      generalize (Ln.of (b.drop q)).size = sz at *
                      generalize (⟨(Ln.of (b.drop q)).text.toArray⟩ : ByteArray) = tb at *
                      go_wp2_with fail
                      refine (HL1.out _ HR.out.below).mono ?_
                      rintro e w1 ⟨rfl, hw⟩
                      subst hw
                      go_wp2
                      (try simp only [Exit.inBlock, Exit.then])
                      refine bodyPost_ret (results_tmp4 rfl _ _ _) rfl ?_
                      exact ChOwn.of body (q + sz) false 8 ao ca n _ (by rw [HOf.out]; simp [Ck.shift]) HR.out.len (by omega) rfl HR.out.own HR.out.below
                    · have t16 : ((m : Int) == 16) = false := by rw [beq_eq_false_iff_ne]; omega
                      by_cases hfc : (Fd.of (Ln.of (b.drop q)).text).code = 0
                      · have hfq := HR.out.f_
                        rw [List.length_drop] at hfq
                        obtain ⟨f3, rfl⟩ : ∃ f3, f2 = f3 + 1 := ⟨f2 - 1, by omega⟩
                        rw [Ck.trail_next HBad.out htx h16 hfc, Ck.shift_shift, List.append_nil, List.drop_drop] at hof
                        rw [hfc] at HFd
                        have HOf := Hid.mk' hof
                        have HF3 : Hid ((b.drop (q + (Ln.of (b.drop q)).size)).length < f3 + 1) := by unfold Hid; rw [List.length_drop]; omega
                        clear hof HBad htx hfc
                        generalize (⟨(Fd.of (Ln.of (b.drop q)).text).name.toArray⟩ : ByteArray) = nm at HFd
                        generalize (⟨(Fd.of (Ln.of (b.drop q)).text).value.toArray⟩ : ByteArray) = vl at HFd
                        generalize (Ln.of (b.drop q)).size = sz at *
                        generalize (⟨(Ln.of (b.drop q)).text.toArray⟩ : ByteArray) = tb at *
                        go_wp2_with fail
                        refine (HL1.out _ HR.out.below).mono ?_
                        rintro e w1 ⟨rfl, hw⟩
                        subst hw
                        go_wp2_with fail
                        refine (HFd.out _).mono ?_
                        rintro e w2 ⟨rfl, hb2⟩
                        have HB2 := Hid.mk' hb2
                        clear hb2
                        go_wp2
                        go_roundw
                        case rel =>
                          have hb3 := HB2.out.alloc HB2.out.size (.cells #[.string nm, .string vl] 51)
                          exact ⟨q + sz, m + 1, f3, by omega, by go_num, by go_num, ⟨HR.out.own.stay hb3, HR.out.len, by omega, HF3.out, HOf.out, then_ HR.out.below hb3⟩⟩
                        case measure => simp [intOf]; omega
                      · have tfc : (((Fd.of (Ln.of (b.drop q)).text).code : Int) != 0) = true := by rw [bne_iff_ne]; omega
                        rw [Ck.trail_code HBad.out htx h16 hfc] at hof
                        have HOf := Hid.mk' hof
                        clear hof HBad htx hfc
                        generalize (⟨(Fd.of (Ln.of (b.drop q)).text).name.toArray⟩ : ByteArray) = nm at HFd
                        generalize (⟨(Fd.of (Ln.of (b.drop q)).text).value.toArray⟩ : ByteArray) = vl at HFd
                        generalize (Fd.of (Ln.of (b.drop q)).text).code = fc at *
                        generalize (Ln.of (b.drop q)).size = sz at *
                        generalize (⟨(Ln.of (b.drop q)).text.toArray⟩ : ByteArray) = tb at *
                        go_wp2_with fail
                        refine (HL1.out _ HR.out.below).mono ?_
                        rintro e w1 ⟨rfl, hw⟩
                        subst hw
                        go_wp2_with fail
                        refine (HFd.out _).mono ?_
                        rintro e w2 ⟨rfl, hb2⟩
                        have HB2 := Hid.mk' hb2
                        clear hb2
                        go_wp2
                        (try simp only [Exit.inBlock, Exit.then])
                        refine bodyPost_ret (results_tmp4 rfl _ _ _) rfl ?_
                        have hb3 := HB2.out.alloc HB2.out.size (.cells #[.string nm, .string vl] 51)
                        exact ChOwn.of body (q + sz) false fc ao ca n _ (by rw [HOf.out]; simp [Ck.shift]) HR.out.len (by omega) rfl (HR.out.own.stay hb3) (then_ HR.out.below hb3)
            · have tk : ((k : Int) == 0) = false := by rw [beq_eq_false_iff_ne]; omega
              have HO4 := Hid.mk' (fun W (hW : Below wc.heap.size wc W) => HRq.out.stay hW)
              by_cases hsh : b.length - (p + sz) < k
              · have tsh : decide ((b.length : Int) - ((p : Int) + sz) < k) = true := decide_eq_true (by omega)
                have e1 : (p : Int) + sz ≤ b.length := by omega
                have e2 : ((p : Int) + sz).toNat = p + sz := by omega
                have HD : Hid (b.drop (p + sz) = (b.drop p).drop sz) := by unfold Hid; rw [List.drop_drop]
                have hdl : (b.drop (p + sz)).length = b.length - (p + sz) := List.length_drop
                have HDl := Hid.mk' hdl
                clear hdl
                have HI4 := Hid.mk' (fun W (hW : Below w.heap.size w W) (ao' : Option Addr) (ha : cap ≠ p + sz → ao' = some ⟨bb, oo + (p + sz), none⟩) => show IsB W ao' (cap - (p + sz)) (b.drop (p + sz)) by
                  have := (HB.out.stay hW).cut (ao' := ao') (p + sz) b.length (by omega) (Nat.le_refl _) (fun e => by rw [ha e]; simp [Addr.add_lit])
                  rwa [List.take_of_length_le (by rw [List.length_drop]; omega)] at this)
                have hof := HR.out.of_
                rw [Ck.go_short HBad.out HOk'.out (by rw [HZ'.out]; omega) (by rw [HZ'.out]; exact hk0) (by rw [HZ'.out, HS.out, List.length_drop, List.length_drop]; omega), HS.out, ← HD.out] at hof
                have HOf := Hid.mk' hof
                have HLen := Hid.mk' HR.out.len
                clear hof HR HLn
                by_cases hc2 : cap = p + sz
                · subst hc2
                  have e3 : b.length - (p + sz) = 0 := by omega
                  have hd0 : b.drop (p + sz) = [] := List.drop_eq_nil_of_le (by omega)
                  rw [hd0] at HOf
                  have HI5 := Hid.mk' (fun (W : World) => (show IsB W (some ⟨bb, oo, none⟩) 0 [] from ⟨Nat.le_refl _, fun _ => rfl, fun j hj => by cases hj⟩))
                  clear HI4 hd0 HD HDl
                  go_wp2_with fail
                  refine HTr.out.mono ?_
                  rintro e w3 ⟨rfl, hw⟩
                  subst hw
                  go_wp2_with fail
                  refine (HN.out _).mono ?_
                  rintro e w4 ⟨rfl, hb4⟩
                  have HB4 := Hid.mk' (then_ HBq.out hb4); have HO5 := Hid.mk' (HO4.out _ hb4)
                  clear hb4
                  go_wp2_with (at_builtin; refine wpList_append_at rfl (.tmp 78) (.tmp 81) 22 rfl w.heap.size 5 i0 Tryz.underlying22 Hi.out Hz0.out Hz1.out Hz2.out (l := body) (l2 := []) rfl HLen.out HO5.out rfl rfl (HI5.out _) (by omega) HB4.out.size ?_; intro ao3 cap3 w5 hO3 hG3 _; have HO3 := Hid.mk' hO3; have HG3 := Hid.mk' (HB4.out.trans (grown_base HO5.out hG3 HB4.out.size)); clear hO3 hG3)
                  (try simp only [Exit.inBlock, Exit.then])
                  refine bodyPost_ret (results_tmp4 rfl _ _ _) rfl ?_
                  exact ChOwn.of (body ++ []) (p + (sz + 0)) false 0 ao3 cap3 (n + 0) _ (by rw [HOf.out]; rfl) (by rw [List.length_append, HLen.out]; rfl) (by omega) rfl HO3.out HG3.out
                · have HI5 := Hid.mk' (fun W hW => HI4.out W hW (some ⟨bb, oo + (p + sz), none⟩) (fun _ => rfl))
                  clear HI4
                  go_wp2_with fail
                  refine HTr.out.mono ?_
                  rintro e w3 ⟨rfl, hw⟩
                  subst hw
                  go_wp2_with fail
                  refine (HN.out _).mono ?_
                  rintro e w4 ⟨rfl, hb4⟩
                  have HB4 := Hid.mk' (then_ HBq.out hb4); have HO5 := Hid.mk' (HO4.out _ hb4)
                  clear hb4
                  go_wp2_with (at_builtin; refine wpList_append_at rfl (.tmp 78) (.tmp 81) 22 rfl w.heap.size 5 i0 Tryz.underlying22 Hi.out Hz0.out Hz1.out Hz2.out (l := body) (l2 := b.drop (p + sz)) rfl HLen.out HO5.out rfl HDl.out (HI5.out _ HB4.out) (by omega) HB4.out.size ?_; intro ao3 cap3 w5 hO3 hG3 _; have HO3 := Hid.mk' hO3; have HG3 := Hid.mk' (HB4.out.trans (grown_base HO5.out hG3 HB4.out.size)); clear hO3 hG3)
                  (try simp only [Exit.inBlock, Exit.then])
                  refine bodyPost_ret (results_tmp4 rfl _ _ _) rfl ?_
                  exact ChOwn.of (body ++ b.drop (p + sz)) (p + (sz + (b.drop (p + sz)).length)) false 0 ao3 cap3 _ _ (by rw [HOf.out]; rfl) (by rw [List.length_append, HLen.out, HDl.out]) (by rw [HDl.out]; omega) rfl HO3.out HG3.out
              · have tsh : decide ((b.length : Int) - ((p : Int) + sz) < k) = false := decide_eq_false (by omega)
                have e1 : (p : Int) + sz ≤ (p : Int) + sz + k := by omega
                have e2 : (p : Int) + sz + k ≤ cap := by omega
                have e3 : ((p : Int) + sz).toNat = p + sz := by omega
                have e4 : ((p : Int) + sz + k).toNat = p + sz + k := by omega
                have e5 : p + sz + k - (p + sz) = k := by omega
                have e6 : ¬ cap = p + sz := by omega
                have e7 : (p : Int) + sz + k ≤ b.length := by omega
                have hp2 : p + sz + k ≤ b.length := by omega
                have hdl : ((b.drop (p + sz)).take k).length = k := by rw [List.length_take, List.length_drop]; omega
                have HI4 := Hid.mk' (fun W (hW : Below w.heap.size w W) => show IsB W (some ⟨bb, oo + (p + sz), none⟩) (cap - (p + sz)) ((b.drop (p + sz)).take k) by
                  have := (HB.out.stay hW).cut (ao' := some ⟨bb, oo + (p + sz), none⟩) (p + sz) (p + sz + k) (by omega) hp2 (fun e => by simp [Addr.add_lit])
                  rwa [e5] at this)
                have HDl := Hid.mk' hdl
                have HLen := Hid.mk' HR.out.len
                have h4' : ¬ 4000 < n + (Ck.size (Ln.of (b.drop p)).text).1.toNat := by rw [HZ'.out]; exact h4
                have hk0' : ¬ (Ck.size (Ln.of (b.drop p)).text).1.toNat = 0 := by rw [HZ'.out]; exact hk0
                have hsh' : ¬ ((b.drop p).drop (Ln.of (b.drop p)).size).length < (Ck.size (Ln.of (b.drop p)).text).1.toNat := by rw [HZ'.out, HS.out, List.length_drop, List.length_drop]; omega
                have hdd : ((b.drop p).drop (Ln.of (b.drop p)).size).drop (Ck.size (Ln.of (b.drop p)).text).1.toNat = b.drop (p + sz + k) := by rw [HZ'.out, HS.out, List.drop_drop, List.drop_drop, ← Nat.add_assoc]
                have hd1 : (b.drop p).drop (Ln.of (b.drop p)).size = b.drop (p + sz) := by rw [HS.out, List.drop_drop]
                have hof := HR.out.of_
                have hle2 := Ln.of_le (b.drop (p + sz + k))
                have htl2 := Ln.of_text_le (b.drop (p + sz + k))
                rw [List.length_drop] at hle2 htl2
                have HFf := Hid.mk' HR.out.f_
                clear hdl HR
                by_cases hbad2 : (Ln.of (b.drop (p + sz + k))).code ≠ 0 ∨ (Ln.of (b.drop (p + sz + k))).ended = false
                · rw [Ck.go_bad2 HBad.out HOk'.out h4' hk0' hsh' (by rw [hdd]; exact hbad2), hdd, hd1, HZ'.out, HS.out] at hof
                  have HOf := Hid.mk' hof
                  clear hof h4' hk0' hsh' hdd hd1
                  generalize (b.drop (p + sz)).take k = x at *
                  by_cases hc2 : cap = p + sz + k
                  · have HL2 := Hid.mk' (fun W hW => HLn.out (p + sz + k) 0 0 (some ⟨bb, oo, none⟩) hp2 (by omega) (by omega) (fun e => absurd hc2 e) W hW)
                    have hnil : b.drop (p + sz + k) = [] := List.drop_eq_nil_of_le (by omega)
                    rw [hnil] at HL2 HOf
                    have e0 : Ln.of [] = Ln.open_ := rfl
                    rw [e0] at HL2 HOf
                    unfold Ln.open_ at HL2 HOf
                    simp only at HL2 HOf
                    have e8 : b.length - (p + sz + k) = 0 := by omega
                    clear hbad2 hle2 htl2 hnil e0 HLn HB
                    subst hc2
                    simp only [e5] at HI4
                    go_wp2_with fail
                    refine HTr.out.mono ?_
                    rintro e w3 ⟨rfl, hw⟩
                    subst hw
                    go_wp2_with fail
                    refine (HN.out _).mono ?_
                    rintro e w4 ⟨rfl, hb4⟩
                    have HB4 := Hid.mk' (then_ HBq.out hb4); have HO5 := Hid.mk' (HO4.out _ hb4)
                    clear hb4
                    go_wp2_with (at_builtin; refine wpList_append_at rfl (.tmp 85) (.tmp 91) 22 rfl w.heap.size 5 i0 Tryz.underlying22 Hi.out Hz0.out Hz1.out Hz2.out (l := body) (l2 := x) rfl HLen.out HO5.out rfl HDl.out (HI4.out _ HB4.out) (by omega) HB4.out.size ?_; intro ao3 cap3 w5 hO3 hG3 _; have HO3 := Hid.mk' hO3; have HG3 := Hid.mk' (HB4.out.trans (grown_base HO5.out hG3 HB4.out.size)); clear hO3 hG3)
                    refine (HL2.out _ HG3.out).mono ?_
                    rintro e w6 ⟨rfl, hw⟩
                    subst hw
                    go_wp2
                    (try simp only [Exit.inBlock, Exit.then])
                    refine bodyPost_ret (results_tmp4 rfl _ _ _) rfl ?_
                    exact ChOwn.of (body ++ x) (p + (sz + k + 0)) false 0 ao3 cap3 (n + k) _ (by rw [HOf.out]; simp [Ck.shift]) (by rw [List.length_append, HLen.out, HDl.out]) (by omega) rfl HO3.out HG3.out
                  · have HL2 := Hid.mk' (fun W hW => HLn.out (p + sz + k) (b.length - (p + sz + k)) (cap - (p + sz + k)) (some ⟨bb, oo + (p + sz + k), none⟩) hp2 rfl rfl (fun _ => rfl) W hW)
                    clear HLn HB
                    generalize Ln.of (b.drop (p + sz + k)) = L at *
                    obtain ⟨t2, sz2, en, lc⟩ := L
                    simp only at *
                    generalize (⟨t2.toArray⟩ : ByteArray) = tb2 at *
                    by_cases hlc : lc = 0
                    · subst hlc
                      have hen : en = false := by
                        rcases hbad2 with h | h
                        · exact absurd rfl h
                        · exact h
                      subst hen
                      clear hbad2
                      go_wp2_with fail
                      refine HTr.out.mono ?_
                      rintro e w3 ⟨rfl, hw⟩
                      subst hw
                      go_wp2_with fail
                      refine (HN.out _).mono ?_
                      rintro e w4 ⟨rfl, hb4⟩
                      have HB4 := Hid.mk' (then_ HBq.out hb4); have HO5 := Hid.mk' (HO4.out _ hb4)
                      clear hb4
                      go_wp2_with (at_builtin; refine wpList_append_at rfl (.tmp 85) (.tmp 91) 22 rfl w.heap.size 5 i0 Tryz.underlying22 Hi.out Hz0.out Hz1.out Hz2.out (l := body) (l2 := x) rfl HLen.out HO5.out rfl HDl.out (HI4.out _ HB4.out) (by omega) HB4.out.size ?_; intro ao3 cap3 w5 hO3 hG3 _; have HO3 := Hid.mk' hO3; have HG3 := Hid.mk' (HB4.out.trans (grown_base HO5.out hG3 HB4.out.size)); clear hO3 hG3)
                      refine (HL2.out _ HG3.out).mono ?_
                      rintro e w6 ⟨rfl, hw⟩
                      subst hw
                      go_wp2
                      (try simp only [Exit.inBlock, Exit.then])
                      refine bodyPost_ret (results_tmp4 rfl _ _ _) rfl ?_
                      exact ChOwn.of (body ++ x) (p + (sz + k + sz2)) false 0 ao3 cap3 (n + k) _ (by rw [HOf.out]; simp [Ck.shift]) (by rw [List.length_append, HLen.out, HDl.out]) (by omega) rfl HO3.out HG3.out
                    · have tlc : ((lc : Int) != 0) = true := by rw [bne_iff_ne]; omega
                      clear hbad2
                      go_wp2_with fail
                      refine HTr.out.mono ?_
                      rintro e w3 ⟨rfl, hw⟩
                      subst hw
                      go_wp2_with fail
                      refine (HN.out _).mono ?_
                      rintro e w4 ⟨rfl, hb4⟩
                      have HB4 := Hid.mk' (then_ HBq.out hb4); have HO5 := Hid.mk' (HO4.out _ hb4)
                      clear hb4
                      go_wp2_with (at_builtin; refine wpList_append_at rfl (.tmp 85) (.tmp 91) 22 rfl w.heap.size 5 i0 Tryz.underlying22 Hi.out Hz0.out Hz1.out Hz2.out (l := body) (l2 := x) rfl HLen.out HO5.out rfl HDl.out (HI4.out _ HB4.out) (by omega) HB4.out.size ?_; intro ao3 cap3 w5 hO3 hG3 _; have HO3 := Hid.mk' hO3; have HG3 := Hid.mk' (HB4.out.trans (grown_base HO5.out hG3 HB4.out.size)); clear hO3 hG3)
                      refine (HL2.out _ HG3.out).mono ?_
                      rintro e w6 ⟨rfl, hw⟩
                      subst hw
                      go_wp2
                      (try simp only [Exit.inBlock, Exit.then])
                      refine bodyPost_ret (results_tmp4 rfl _ _ _) rfl ?_
                      exact ChOwn.of (body ++ x) (p + (sz + k + sz2)) false lc ao3 cap3 (n + k) _ (by rw [HOf.out]; simp [Ck.shift]) (by rw [List.length_append, HLen.out, HDl.out]) (by omega) rfl HO3.out HG3.out
                · obtain ⟨hlc, hen, hsz2⟩ := line_good hbad2
                  have hc2 : ¬ cap = p + sz + k := by omega
                  have HL2 := Hid.mk' (fun W hW => HLn.out (p + sz + k) (b.length - (p + sz + k)) (cap - (p + sz + k)) (some ⟨bb, oo + (p + sz + k), none⟩) hp2 rfl rfl (fun _ => rfl) W hW)
                  rw [hlc, hen] at HL2
                  clear HLn HB hlc hen
                  by_cases htx : (Ln.of (b.drop (p + sz + k))).text = []
                  · have hfq := HFf.out
                    rw [List.length_drop] at hfq
                    obtain ⟨f3, rfl⟩ : ∃ f3, f = f3 + 1 := ⟨f - 1, by omega⟩
                    rw [Ck.go_next HBad.out HOk'.out h4' hk0' hsh' (by rw [hdd]; exact hbad2) (by rw [hdd]; exact htx), hdd, hd1, HZ'.out, HS.out, Ck.shift_shift, List.drop_drop] at hof
                    rw [htx] at HL2
                    have HOf := Hid.mk' hof
                    clear hof h4' hk0' hsh' hdd hd1 hbad2 htx htl2 hfq
                    generalize (Ln.of (b.drop (p + sz + k))).size = sz2 at *
                    generalize (b.drop (p + sz)).take k = x at *
                    go_wp2_with fail
                    refine HTr.out.mono ?_
                    rintro e w3 ⟨rfl, hw⟩
                    subst hw
                    go_wp2_with fail
                    refine (HN.out _).mono ?_
                    rintro e w4 ⟨rfl, hb4⟩
                    have HB4 := Hid.mk' (then_ HBq.out hb4); have HO5 := Hid.mk' (HO4.out _ hb4)
                    clear hb4
                    go_wp2_with (at_builtin; refine wpList_append_at rfl (.tmp 85) (.tmp 91) 22 rfl w.heap.size 5 i0 Tryz.underlying22 Hi.out Hz0.out Hz1.out Hz2.out (l := body) (l2 := x) rfl HLen.out HO5.out rfl HDl.out (HI4.out _ HB4.out) (by omega) HB4.out.size ?_; intro ao3 cap3 w5 hO3 hG3 _; have HO3 := Hid.mk' hO3; have HG3 := Hid.mk' (HB4.out.trans (grown_base HO5.out hG3 HB4.out.size)); clear hO3 hG3)
                    refine (HL2.out _ HG3.out).mono ?_
                    rintro e w6 ⟨rfl, hw⟩
                    subst hw
                    go_wp2
                    go_roundw
                    case rel =>
                      have hff := HFf.out
                      rw [List.length_drop] at hff
                      refine ⟨p + (sz + k + sz2), n + k, ao3, cap3, body ++ x, f3, by omega, by go_num, by go_num, ⟨HO3.out, by rw [List.length_append, HLen.out, HDl.out], by omega, by rw [List.length_drop]; omega, ?_, HG3.out⟩⟩
                      have h := HOf.out
                      rw [show p + sz + k + sz2 = p + (sz + k + sz2) by omega] at h
                      exact h
                    case measure => simp [intOf]; omega
                  · have ttx : ((⟨(Ln.of (b.drop (p + sz + k))).text.toArray⟩ : ByteArray).toList == []) = false := by rw [beq_eq_false_iff_ne, Lib.toList_data]; exact htx
                    rw [Ck.go_form HBad.out HOk'.out h4' hk0' hsh' (by rw [hdd]; exact hbad2) (by rw [hdd]; exact htx), hdd, hd1, HZ'.out, HS.out] at hof
                    have HOf := Hid.mk' hof
                    clear hof h4' hk0' hsh' hdd hd1 hbad2 htx htl2
                    generalize (Ln.of (b.drop (p + sz + k))).size = sz2 at *
                    generalize (⟨(Ln.of (b.drop (p + sz + k))).text.toArray⟩ : ByteArray) = tb2 at *
                    generalize (b.drop (p + sz)).take k = x at *
                    go_wp2_with fail
                    refine HTr.out.mono ?_
                    rintro e w3 ⟨rfl, hw⟩
                    subst hw
                    go_wp2_with fail
                    refine (HN.out _).mono ?_
                    rintro e w4 ⟨rfl, hb4⟩
                    have HB4 := Hid.mk' (then_ HBq.out hb4); have HO5 := Hid.mk' (HO4.out _ hb4)
                    clear hb4
                    go_wp2_with (at_builtin; refine wpList_append_at rfl (.tmp 85) (.tmp 91) 22 rfl w.heap.size 5 i0 Tryz.underlying22 Hi.out Hz0.out Hz1.out Hz2.out (l := body) (l2 := x) rfl HLen.out HO5.out rfl HDl.out (HI4.out _ HB4.out) (by omega) HB4.out.size ?_; intro ao3 cap3 w5 hO3 hG3 _; have HO3 := Hid.mk' hO3; have HG3 := Hid.mk' (HB4.out.trans (grown_base HO5.out hG3 HB4.out.size)); clear hO3 hG3)
                    refine (HL2.out _ HG3.out).mono ?_
                    rintro e w6 ⟨rfl, hw⟩
                    subst hw
                    go_wp2
                    (try simp only [Exit.inBlock, Exit.then])
                    refine bodyPost_ret (results_tmp4 rfl _ _ _) rfl ?_
                    exact ChOwn.of (body ++ x) (p + (sz + k + sz2)) false 5 ao3 cap3 (n + k) _ (by rw [HOf.out]; simp [Ck.shift]) (by rw [List.length_append, HLen.out, HDl.out]) (by omega) rfl HO3.out HG3.out
end Go.Proofs.YtkafbifogdoneacGreatDoor
