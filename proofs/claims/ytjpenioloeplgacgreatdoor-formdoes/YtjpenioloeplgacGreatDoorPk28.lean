/- Small texts, one behind the other: RfFo, RfFPs, FmLawD. -/
import Derived.Test.YtjpenioloeplgacGreatDoorPk27
import Derived.Test.YtjpenioloeplgacGreatDoorPk7
import Derived.Lib.SlBytesConst
import Derived.Test.YtjpenioloeplgacGreatDoorPk14
import Derived.Test.YtjpenioloeplgacGreatDoorPk26
import Derived.Test.YtjpenioloeplgacGreatDoorFmK
import Derived.Test.YtjpenioloeplgacGreatDoorRfSamPs
import Derived.Test.YtjpenioloeplgacGreatDoorRfSameE
/- The document's own answer for forms, walked: FormOf. -/
namespace Go.Proofs.YtjpenioloeplgacGreatDoor
open Go.RowKit

theorem two_buf (W : World) (t : Nat) {k : Nat} (hk : W.heap.size = k) : Buf (W.alloc (.cells #[.int .u8 13, .int .u8 10] t (2, 3))) k k 2 [13, 10] := by
  subst hk
  refine ⟨Nat.le_refl _, by simp, by decide, by decide, fun j u hj => ?_, fun j hj => ⟨?_, ?_⟩⟩
  · rw [World.cell?_alloc_mark]; simpa [byteV] using hj
  · rw [World.cell?_alloc_mark]
    rcases (show j = 0 ∨ j = 1 by omega) with rfl | rfl <;> rfl
  · rw [World.frozen?_alloc_mark]
    simp; omega
theorem src_bytes {P : Program} {tx e' : TypeId} (hk : P.underlying tx = some (.slice e')) {W : World} {bo : Option Addr} {cap n : Nat} {b : List UInt8} (h : IsB W bo cap b) (hn : b.length = n) : Src P 1 tx (.slice bo n cap) n (byteV b) W := by
  subst hn
  cases bo with
  | none =>
    obtain ⟨rfl, rfl⟩ := h.none_nil
    exact Src.ofNil _ hk 0
  | some a =>
    refine Src.ofSlice _ hk a _ cap _ (by rw [byteV_length]; omega) (fun j u hu => ?_) (byteV_one b)
    have hj : j < b.length := by
      have := (List.getElem?_eq_some_iff.1 hu).1
      rwa [byteV_length] at this
    rw [byteV_at b j hj] at hu
    injection hu with hu; subst hu
    exact h.cell j hj
theorem byte_cell {W : World} {xb xcap : Nat} {x : List UInt8} (h : IsB W (some ⟨xb, 0, none⟩) xcap x) (j : Nat) (hj : j < x.length) : W.cell? ⟨xb, j, none⟩ = some (.int .u8 (x[j].toNat : Int)) := by
  have := h.cell j hj
  rw [Addr.add_lit, Nat.zero_add] at this
  exact this
theorem byte_no {c : UInt8} (k : UInt8) {i : Int} (hk : (k.toNat : Int) = i) (h : c ≠ k) : (((c.toNat : Nat) : Int) == i) = false := by
  rw [beq_eq_false_iff_ne]
  intro e
  apply h
  apply UInt8.toNat_inj.1
  omega
/-- where the walk begins -/
theorem fo_start {w w3 : World} {b : List UInt8} {xb cap3 : Nat} (t : Nat) (hO : Buf w3 (w.heap.size + 1) xb cap3 ([13, 10] ++ b)) (hT : Turns (fun k => k = w.heap.size + 1) ((w.alloc (.cells #[.slice none 0 0] 26)).alloc (.cells #[.int .u8 13, .int .u8 10] t (2, 3))) w3) :
    FoSt w (13 :: 10 :: b) xb cap3 none 0 0 [] w3 := by
  have h1 := (FoAt.start w).stay ((Below.refl _ _).alloc (Nat.le_refl _) (.cells #[.int .u8 13, .int .u8 10] t (2, 3)))
  exact ⟨⟨h1.cell.turns hT (fun k e => by omega), WantIn.nil _ _ _, rfl⟩, ⟨hO.isB, fun _ a e => by injection e with e; subst e; exact ⟨hO.base_, fun f => by cases f⟩⟩⟩

set_option maxRecDepth 100000 in
set_option maxHeartbeats 8000000 in
theorem formOf_at (m : List UInt8) (s : ByteArray) (b : List UInt8) (bo : Option Addr) (bcap bn : Nat) (w : World) (hB : IsB w bo bcap b) (hn : b.length = bn) (h9 : bn ≤ 9000) (hs0 : 0 < s.size) (hs7 : s.size ≤ 90) (hm : Fm.mark s.data.toList = m) :
    Calls Tryz.prog 34 #[.string s, .slice bo bn bcap] w fun e w' => FoOut w m b e w' := by
  have HB := Hid.mk' hB; have HN := Hid.mk' hn
  have hms : (⟨#[13, 10, 45, 45]⟩ ++ s : ByteArray).data.toList = Fm.mark s.data.toList := by rw [Ch.data_append]; rfl
  have hmz : (⟨#[13, 10, 45, 45]⟩ ++ s : ByteArray).size = s.size + 4 := by rw [ByteArray.size_append]; show 4 + s.size = _; omega
  have hml : (Fm.mark s.data.toList).length = s.size + 4 := by rw [← hms, Ch.len_list, hmz]
  rw [hm] at hms hml
  have HMs := Hid.mk' hms; have HMl := Hid.mk' hml
  have HMz := Hid.mk' hmz
  obtain ⟨i0, hi0, hz0, hz1, hz2⟩ := info_parts info_u8
  have Hi := Hid.mk' hi0; have Hz0 := Hid.mk' hz0; have Hz1 := Hid.mk' hz1; have Hz2 := Hid.mk' hz2
  clear hi0 hz0 hz1 hz2 hB hms hmz hml hn hm
  have HBw : Hid (IsB ((w.alloc (.cells #[.slice none 0 0] 26)).alloc (.cells #[.int .u8 13, .int .u8 10] 5 (2, 3))) bo bcap b) := HB.out.stay (((Below.refl _ _).alloc (Nat.le_refl _) _).alloc (by simp) _)
  have kc2 : ∀ (w : World) (ob : Obj) (C : Array Value) (n c : Nat), (convert 22 22 (.slice (some ⟨w.heap.size + 1, 0, none⟩) n c)).run Tryz.prog ((w.alloc ob).alloc (.cells C 5)) = .ok (.slice (some ⟨w.heap.size + 1, 0, none⟩) n c) ((w.alloc ob).alloc (.cells C 5 (C.size, C.size + 1))) := fun w ob C n c => by
    have := Lib.run_convert_bytes_const (P := Tryz.prog) (w.alloc ob) 22 5 C n c Tryz.underlying22 Tryz.underlying5
    simpa using this
  go_enter Tryz.func34, Tryz.ntmps34
  go_upto_region 5 with (at_builtin; refine wpList_append_buf_at rfl (.tmp 28) (.tmp 29) 22 22 rfl 5 i0 Tryz.underlying22 Hi.out Hz0.out Hz1.out Hz2.out (base := w.heap.size + 1) (l := [13, 10]) (l2 := b) rfl (two_buf _ _ (by simp)) rfl _ bn rfl (src_bytes Tryz.underlying22 HBw.out HN.out) (by omega) ?_; intro xb cap3 w3 hO3 hT3 _; have HS0 := Hid.mk' (fo_start _ hO3 hT3); clear hO3 hT3)
  clear kc2 HBw Hi Hz0 Hz1 Hz2
  obtain ⟨xn, hxn⟩ : ∃ xn, 2 + bn = xn := ⟨_, rfl⟩
  have HXl : Hid ((13 :: 10 :: b : List UInt8).length = xn) := by unfold Hid; rw [List.length_cons, List.length_cons, HN.out]; omega
  rw [hxn]
  have hx9 : xn ≤ 20000 := by omega
  have hm5 : 5 ≤ m.length := by have := HMl.out; omega
  have hm7 : m.length ≤ 100 := by have := HMl.out; omega
  have hmz : (⟨#[13, 10, 45, 45]⟩ ++ s : ByteArray).size = m.length := by rw [HMz.out, HMl.out]
  clear HMl HMz
  generalize (⟨#[13, 10, 45, 45]⟩ ++ s : ByteArray) = ms at *
  have HFn := Hid.mk' (find_any w3 (some ⟨xb, 0, none⟩) cap3 xn (13 :: 10 :: b) ms HS0.out.xs.is HXl.out (by omega) (by omega))
  rw [HMs.out] at HFn
  cases hfd : Fm.find m (13 :: 10 :: b) with
  | none =>
    have HOf := Hid.mk' (Fm.of_none hfd)
    go_wp2_with fail
    refine HFn.out.mono ?_
    rintro e w4 ⟨r, rfl, hfi, hw⟩
    subst hw
    have hr := (findIs_of (List.ne_nil_of_length_pos (by omega)) hfi).1 hfd
    subst hr
    clear hfi hfd HFn
    go_wp2
    go_ret2
    exact FoOut.of HOf.out rfl (WantIn.nil _ _ _) HS0.out.rs.cell.below
  | some k =>
    obtain ⟨⟨hk1, hk2⟩, _⟩ := (Fm.find_of (x := 13 :: 10 :: b) (List.ne_nil_of_length_pos (by omega))).2 k hfd
    have hof := Fm.of_some hfd
    rw [HXl.out] at hk1
    have HR0 : Hid (F1Rel w m b (13 :: 10 :: b) xb cap3 (k + m.length) 0 none 0 0 [] b.length w3) := ⟨HS0.out, Nat.zero_le _, by omega, by rw [HXl.out]; have := HN.out; omega, by rw [List.nil_append]; exact hof⟩
    clear hof hk2 HS0
    go_wp2_with fail
    refine HFn.out.mono ?_
    rintro e w4 ⟨r, rfl, hfi, hw⟩
    subst hw
    have hr := (findIs_of (List.ne_nil_of_length_pos (by omega)) hfi).2 k hfd
    subst hr
    clear hfi hfd HFn
    generalize (13 :: 10 :: b : List UInt8) = x at *
    have tk : decide ((k : Int) < 0) = false := decide_eq_false (by omega)
    go_wp2
    clear tk
    go_loopw [11, 12] (fun va vb wr => ∃ (p parts n : Nat) (ao : Option Addr) (ca : Nat) (es : List EvD) (f : Nat), p ≤ xn ∧ va = .int .i64 p ∧ vb = .int .i64 parts ∧ F1Rel w m b x xb cap3 p parts ao ca n es f wr) (fun va _ _ => xn + 1 - (intOf va).toNat)
    case atStart => exact ⟨k + m.length, 0, 0, none, 0, [], b.length, hk1, by rw [← hmz]; go_num, rfl, HR0.out⟩
    case round =>
      clear HR0
      obtain ⟨p, parts, n, ao, ca, es, f, hp, rfl, rfl, hR⟩ := hrel
      have HR := Hid.mk' hR
      have hn36 : n ≤ 36 := by have h1 := hR.few; have h2 := hR.parts_; omega
      have hf := hR.f_
      rw [HXl.out] at hf
      have HOf := Hid.mk' hR.of_
      have c0 : wr.cell? ⟨w.heap.size, 0, none⟩ = some (.slice ao n ca) := hR.st.rs.cell.cell 0
      have hcap : xn ≤ cap3 := by have := hR.st.xs.is.1; rw [HXl.out] at this; exact this
      have HBy := Hid.mk' (fun j hj => byte_cell hR.st.xs.is j hj)
      have HRs := Hid.mk' hR.st.rs
      clear hR
      by_cases hpe : p = xn
      · subst hpe
        have HOf2 : Hid (Fm.of m b = (es, 14)) := by
          unfold Hid
          rw [HOf.out, List.drop_eq_nil_of_le (by rw [HXl.out]; exact Nat.le_refl _), Fm.ofM_nil, List.append_nil]
        clear HOf
        go_wp2
        go_ret2
        exact FoOut.of HOf2.out HRs.out.len HRs.out.want HRs.out.cell.below
      · have hpl : p < x.length := by rw [HXl.out]; omega
        have tp : ((p : Int) == xn) = false := by rw [beq_eq_false_iff_ne]; omega
        have b0 := HBy.out p hpl
        have i0 : (p : Int) < xn := by omega
        have hdp := Fm.drop_at hpl
        by_cases h45 : x[p] = 45
        · have t45 : ((x[p].toNat : Int) == 45) = true := by rw [h45]; rfl
          rw [h45] at hdp
          by_cases hp1 : p + 1 = xn
          · have HOf2 : Hid (Fm.of m b = (es, 14)) := by
              unfold Hid
              rw [HOf.out, hdp, List.drop_eq_nil_of_le (by rw [HXl.out]; omega), Fm.ofM_dash, List.append_nil]
            have tq : ((p : Int) + 1 == xn) = true := by rw [beq_iff_eq]; omega
            clear HOf hdp h45 hp1
            go_wp2
            go_ret2
            exact FoOut.of HOf2.out HRs.out.len HRs.out.want HRs.out.cell.below
          · have hpl1 : p + 1 < x.length := by rw [HXl.out]; omega
            have tq : ((p : Int) + 1 == xn) = false := by rw [beq_eq_false_iff_ne]; omega
            have b1 := HBy.out (p + 1) hpl1
            have i1 : (p : Int) + 1 < xn := by omega
            rw [Fm.drop_at hpl1] at hdp
            by_cases h46 : x[p + 1] = 45
            · have t46 : ((x[p + 1].toNat : Int) != 45) = false := by rw [h46]; rfl
              rw [h46] at hdp
              have HOf2 : Hid (Fm.of m b = (es ++ [Fm.finD], 0)) := by
                unfold Hid
                rw [HOf.out, hdp, Fm.ofM_end]
              obtain ⟨xs8, hO8, hp8⟩ := HRs.out.push (.cells #[.int .i64 3, .string ⟨#[]⟩, .string ⟨#[]⟩, .int .i64 0, .slice none 0 0, .int .i64 0, .slice none 0 0, .string ⟨#[]⟩, .string ⟨#[]⟩, .string ⟨#[]⟩, .slice none 0 0, .int .i64 0] 32)
              have HO8 := Hid.mk' hO8; have HP8 := Hid.mk' hp8
              have HLt8 : Hid (w.heap.size + 1 ≤ wr.heap.size) := HRs.out.cell.lt
              obtain ⟨j0, hj0, hy0, hy1, hy2⟩ := info_parts info_evF
              have Hj := Hid.mk' hj0; have Hy0 := Hid.mk' hy0; have Hy1 := Hid.mk' hy1; have Hy2 := Hid.mk' hy2
              clear hO8 hp8 HOf hdp h45 h46 hj0 hy0 hy1 hy2
              go_wp2_with (at_builtin; refine wpList_append_v rfl (.tmp 68) (.tmp 70) 26 rfl (w.heap.size + 1) 32 j0 (.agg #[.int .i64 0, .string ⟨#[]⟩, .string ⟨#[]⟩, .int .i64 0, .slice none 0 0, .int .i64 0, .slice none 0 0, .string ⟨#[]⟩, .string ⟨#[]⟩, .string ⟨#[]⟩, .slice none 0 0, .int .i64 0]) 12 184 Tryz.underlying26 Hj.out Hy0.out Hy1.out Hy2.out rfl (by decide) rfl HO8.out rfl (IsV.made _ _ 1 _ _) rfl (one_cellsE Fm.finD ⟨none, 0, none, 0, none, 0⟩ _ rfl) (by omega) (by omega) (by rw [World.size_alloc]; have := HLt8.out; omega) ?_; intro a4 c4 w10 hO hG hat; have HQ8 := Hid.mk' (HP8.out a4 c4 w10 Fm.finD ⟨none, 0, none, 0, none, 0⟩ _ rfl ⟨IsVS.nil _ _, IsBS.nil _ _, IsBS.nil _ _⟩ hO hG hat); clear hO hG hat)
              go_ret2
              exact FoOut.of HOf2.out (by rw [List.length_append, ← HRs.out.len]; rfl) HQ8.out.1 HQ8.out.2.2.1
            · have t46 : ((x[p + 1].toNat : Int) != 45) = true := by show (!(_ == (45 : Int))) = true; rw [byte_no (i := 45) 45 rfl h46]; rfl
              have HOf2 : Hid (Fm.of m b = (es ++ [Fm.failD 5], 5)) := by
                unfold Hid
                rw [HOf.out, hdp, Fm.ofM_dash_bad m f parts _ h46]
              have HF := Hid.mk' (formFail_any w wr ao ca n 5 es HRs.out (by omega))
              clear HOf hdp h45 h46
              go_wp2_with fail
              refine HF.out.mono ?_
              rintro e w9 ⟨a9, c9, rfl, hW, hB⟩
              have HW := Hid.mk' hW; have HBw := Hid.mk' hB
              clear hW hB
              go_wp2
              go_ret2
              exact FoOut.of HOf2.out (by rw [List.length_append, ← HRs.out.len]; rfl) HW.out HBw.out
        · have t45 : ((x[p].toNat : Int) == 45) = false := byte_no 45 rfl h45
          have HNe : Hid (x.drop p ≠ [] ∧ (x.drop p).head? ≠ some 45) := by
            refine ⟨by rw [hdp]; exact List.cons_ne_nil _ _, ?_⟩
            rw [hdp, List.head?_cons]
            exact fun e => h45 (Option.some.inj e)
          clear hdp h45
          generalize wr = wo at *
          go_wp2
          clear t45 tp b0
          go_loop [11] (fun vj => ∃ j : Nat, p ≤ j ∧ j ≤ xn ∧ vj = .int .i64 j ∧ (x.drop p).dropWhile Pm.blank = (x.drop j).dropWhile Pm.blank) (fun vj => xn + 1 - (intOf vj).toNat)
          case atStart => exact ⟨p, Nat.le_refl _, hp, rfl, rfl⟩
          case round =>
            obtain ⟨j, hpj, hj, rfl, hdw⟩ := hrel
            have HDw := Hid.mk' hdw
            clear hdw
            by_cases hje : j = xn
            · subst hje
              have HOf2 : Hid (Fm.of m b = (es, 14)) := by
                unfold Hid
                rw [HOf.out, Fm.ofM_open m f parts HNe.out.1 HNe.out.2 (by rw [HDw.out, List.drop_eq_nil_of_le (by rw [HXl.out]; exact Nat.le_refl _)]; rfl), List.append_nil]
              clear HOf
              go_wp2
              go_ret2
              exact FoOut.of HOf2.out HRs.out.len HRs.out.want HRs.out.cell.below
            · have hjl : j < x.length := by rw [HXl.out]; omega
              have ij : (j : Int) < xn := by omega
              have bj := HBy.out j hjl
              by_cases hbl : Pm.blank x[j] = true
              · have HSk := Hid.mk' (Fm.blank_skip hjl hbl)
                rcases (show x[j] = 32 ∨ x[j] = 9 by simpa [Pm.blank] using hbl) with h32 | h9
                · have t32 : ((x[j].toNat : Int) == 32) = true := by rw [h32]; rfl
                  clear h32 hbl
                  go_wp2
                  go_round
                  case rel => exact ⟨j + 1, by omega, by omega, by go_num, HDw.out.trans HSk.out⟩
                  case measure => simp [intOf]; omega
                · have t32 : ((x[j].toNat : Int) == 32) = false := by rw [h9]; rfl
                  have t9 : ((x[j].toNat : Int) == 9) = true := by rw [h9]; rfl
                  clear h9 hbl
                  go_wp2
                  go_round
                  case rel => exact ⟨j + 1, by omega, by omega, by go_num, HDw.out.trans HSk.out⟩
                  case measure => simp [intOf]; omega
              · have hnb : Pm.blank x[j] = false := by simpa using hbl
                have h32 : x[j] ≠ 32 := fun e => by rw [e] at hnb; exact absurd hnb (by decide)
                have h9' : x[j] ≠ 9 := fun e => by rw [e] at hnb; exact absurd hnb (by decide)
                have t32 := byte_no (c := x[j]) (i := 32) 32 rfl h32
                have t9 := byte_no (c := x[j]) (i := 9) 9 rfl h9'
                have hst := HDw.out
                rw [Fm.blank_stop hjl hnb, Fm.drop_at hjl] at hst
                have tj : ((j : Int) == xn) = false := by rw [beq_eq_false_iff_ne]; omega
                clear hnb hbl h32 h9' HDw
                by_cases h13 : x[j] = 13
                · have t13 : ((x[j].toNat : Int) != 13) = false := by rw [h13]; rfl
                  rw [h13] at hst
                  by_cases hj1 : j + 1 = xn
                  · have HOf2 : Hid (Fm.of m b = (es, 14)) := by
                      unfold Hid
                      rw [HOf.out, Fm.ofM_half m f parts HNe.out.1 HNe.out.2 (by rw [hst, List.drop_eq_nil_of_le (by rw [HXl.out]; omega)]), List.append_nil]
                    have tq : ((j : Int) + 1 == xn) = true := by rw [beq_iff_eq]; omega
                    clear HOf hst h13 hj1
                    go_wp2
                    go_ret2
                    exact FoOut.of HOf2.out HRs.out.len HRs.out.want HRs.out.cell.below
                  · have hjl1 : j + 1 < x.length := by rw [HXl.out]; omega
                    have tq : ((j : Int) + 1 == xn) = false := by rw [beq_eq_false_iff_ne]; omega
                    have bj1 := HBy.out (j + 1) hjl1
                    have ij1 : (j : Int) + 1 < xn := by omega
                    rw [Fm.drop_at hjl1] at hst
                    by_cases h10 : x[j + 1] = 10
                    · have t10 : ((x[j + 1].toNat : Int) != 10) = false := by rw [h10]; rfl
                      rw [h10] at hst
                      rw [Fm.ofM_head m f parts HNe.out.1 HNe.out.2 hst] at HOf
                      have HSt : Hid (FoSt w x xb cap3 ao ca n es wo) := HR.out.st
                      clear hst h13 h10
                      go_upto_region 30 with fail
                      obtain ⟨q0, hq0⟩ : ∃ q0 : Nat, (j : Int) + 2 = (q0 : Int) := ⟨j + 2, rfl⟩
                      have hq0' : j + 1 + 1 = q0 := by omega
                      rw [hq0]
                      rw [hq0'] at HOf
                      clear hq0 bj bj1 t32 t9 tj t13 tq t10 ij ij1 c0
                      go_wp2
                      refine formLoop3_any m b x ms w wo xb cap3 xn q0 parts f n ao ca es HXl.out hx9 (by omega) (by omega) HSt.out HOf.out _ _ _ _ _ _ _ _ _ _ _ _ _ _ _ _ _ _ _ _ _ _ _ _ _ _ _ _ _ _ _ _ _ _ _ _ _ _ _ _ _ _ _ _ _ _ _ _ _ _ _ _ _ _ _ _ _ _ _ _ _ _ _ _ _ _ _ _ _ _ _ _ _ _ _ _ _ _ _ _ _ _ _ _ _ _ _ _ _ _ _ _ _ _ _ _ _ _ _ _ _ _ _ _ _ _ _ _ _ _ _ _ _ _ _ _ _ _ _ _ _ _ _ _ _ _ _ _ _ _ _ _ _ _ _ _ _ _ _ _ _ _ _ _ _ _ _ _ _ _ _ _ _ _ _ _ _ _ _ _ _ _ _ _ _ _ _ _ _ _ _ _ _ _ _ _ _ _ _ _ _ _ _ _ _ _ _ _ _ _ _ _ _ _ _ _ _ _ _ _ _ _ _ _ _ _ _ _ _ _ _ _ _ _ _ _ _ _ _ _ _ _ _ _ _ _ _ ?_ ?_
                      · intro tm a2 c2 nn kk w' h4 h5 hout
                        (try simp only [Exit.inBlock, Exit.then])
                        refine bodyPost_ret (v := .tuple #[.slice a2 nn c2, .int .i64 kk]) ?_ rfl hout
                        simp [results, Tryz.results34, go_sem, h4, h5]
                      · intro w5 y4 y5 y11 y13 y14 y15 y16 y17 y18 y124 y125 y126 y127 y128 y129 y130 y131 y132 y133 y134 y135 y136 y137 y138 y139 y140 y141 y142 y143 y144 y145 y146 y147 y148 y149 y150 y151 y152 y153 y154 y155 y156 y157 y158 y159 y160 y161 y162 y163 y164 y165 y166 y167 y168 y169 y170 hy
                        obtain ⟨q, nf, fs, fo, fcap, rfl, rfl, hy1, hy2, hy3, hy4, hy5, hy6⟩ := hy
                        have Y3 := Hid.mk' hy3; have Y4 := Hid.mk' hy4; have Y5 := Hid.mk' hy5; have Y6 := Hid.mk' hy6
                        clear hy3 hy4 hy5 hy6 HOf HSt
                        have hpa := HR.out.parts_
                        have hfe := HR.out.few
                        (try simp only [Exit.inBlock, Exit.then])
                        (try rw [if_pos rfl])
                        apply_assumption
                        refine formTail_any m b x ms w w5 wo xb cap3 xn q parts f n ao ca es fs fo fcap nf HMs.out hm5 hm7 HXl.out hx9 Y4.out Y5.out (by omega) hy2 Y3.out (by omega) hfe hpa Y6.out _ _ _ _ _ _ _ _ _ _ _ _ _ _ _ _ _ _ _ _ _ _ _ _ _ _ _ _ _ _ _ _ _ _ _ _ _ _ _ _ _ _ _ _ _ _ _ _ _ _ _ _ _ _ _ _ _ _ _ _ _ _ _ _ _ _ _ _ _ _ _ _ _ _ _ _ _ _ _ _ _ _ _ _ _ _ _ _ _ _ _ _ _ _ _ _ _ _ _ _ _ _ _ _ _ _ _ _ _ _ _ _ _ _ _ _ _ _ _ _ _ _ _ _ _ _ _ _ _ _ _ _ _ _ _ _ _ _ _ _ _ _ _ _ _ _ _ _ _ _ _ _ _ _ _ _ _ _ _ _ _ _ _ _ _ _ _ _ _ _ _ _ _ _ _ _ _ _ _ _ _ _ _ _ _ _ _ _ _ _ _ _ _ _ _ _ _ _ _ _ _ _ _ _ _ _ _ _ _ _ _ _ _ _ _ _ _ _ _ _ _ _ _ _ _ _ _ ?_ ?_
                        · intro tm a2 c2 nn kk w' h4 h5 hout
                          (try simp only [Exit.inBlock, Exit.then])
                          refine bodyPost_ret (v := .tuple #[.slice a2 nn c2, .int .i64 kk]) ?_ rfl hout
                          simp [results, Tryz.results34, go_sem, h4, h5]
                        · intro w6 y11 y19 y20 y21 y22 y23 y171 y172 y173 y174 y175 y176 y177 y178 y179 y180 y181 y182 y183 y184 y185 y186 y187 y188 y189 y190 y191 y192 y193 y194 y195 y196 y197 y198 y199 y200 y201 y202 y203 y204 y205 y206 y207 y208 y209 y210 y211 y212 y213 y214 y215 y216 y217 y218 y219 y220 y221 y222 y223 y224 y225 y226 y227 y228 y229 y230 y231 y232 hz
                          obtain ⟨p', n', ao', ca', es', f', rfl, hz1, hz2, hz3, hz4⟩ := hz
                          have Z4 := Hid.mk' hz4
                          clear hz4 Y3 Y4 Y5 Y6
                          (try simp only [Exit.inBlock, Exit.then])
                          apply_assumption
                          go_wp2
                          go_roundw
                          case rel => exact ⟨_, _, _, _, _, _, _, _, _, _, _, _, _, _, _, _, _, _, _, _, _, _, _, _, _, _, _, _, _, _, _, _, _, _, _, _, _, _, _, _, _, _, _, _, _, _, _, _, _, _, _, _, _, _, _, _, _, _, _, _, _, _, _, _, _, _, _, _, _, _, _, _, _, _, _, _, _, _, _, _, _, _, _, _, _, _, _, _, _, _, _, _, _, _, _, _, _, _, _, _, _, _, _, _, _, _, _, _, _, _, _, _, _, _, _, _, _, _, _, _, _, _, _, _, _, _, _, _, _, _, _, _, _, _, _, _, _, _, _, _, _, _, _, _, _, _, _, _, _, _, _, _, _, _, _, _, _, _, _, _, _, _, _, _, _, _, _, _, _, _, _, _, _, _, _, _, _, _, _, _, _, _, _, _, _, _, _, _, _, _, _, _, _, _, _, _, _, _, _, _, _, _, _, _, _, _, _, _, ⟨p', parts + 1, n', ao', ca', es', f', hz2, rfl, (by go_num), Z4.out⟩, rfl⟩
                          case measure => simp [intOf]; omega
                    · have t10 : ((x[j + 1].toNat : Int) != 10) = true := by show (!(_ == (10 : Int))) = true; rw [byte_no (i := 10) 10 rfl h10]; rfl
                      have HOf2 : Hid (Fm.of m b = (es ++ [Fm.failD 2], 2)) := by
                        unfold Hid
                        rw [HOf.out, Fm.ofM_line m f parts HNe.out.1 HNe.out.2 hst h10]
                      clear HOf hst h13 h10
                      have HF := Hid.mk' (formFail_any w wo ao ca n 2 es HRs.out (by omega))
                      go_wp2_with fail
                      refine HF.out.mono ?_
                      rintro e w9 ⟨a9, c9, rfl, hW, hB⟩
                      have HW := Hid.mk' hW; have HBw := Hid.mk' hB
                      clear hW hB
                      go_wp2
                      go_ret2
                      exact FoOut.of HOf2.out (by rw [List.length_append, ← HRs.out.len]; rfl) HW.out HBw.out
                · have t13 : ((x[j].toNat : Int) != 13) = true := by show (!(_ == (13 : Int))) = true; rw [byte_no (i := 13) 13 rfl h13]; rfl
                  have HOf2 : Hid (Fm.of m b = (es ++ [Fm.failD 5], 5)) := by
                    unfold Hid
                    rw [HOf.out, Fm.ofM_form m f parts HNe.out.1 HNe.out.2 hst h13]
                  clear HOf hst h13
                  have HF := Hid.mk' (formFail_any w wo ao ca n 5 es HRs.out (by omega))
                  go_wp2_with fail
                  refine HF.out.mono ?_
                  rintro e w9 ⟨a9, c9, rfl, hW, hB⟩
                  have HW := Hid.mk' hW; have HBw := Hid.mk' hB
                  clear hW hB
                  go_wp2
                  go_ret2
                  exact FoOut.of HOf2.out (by rw [List.length_append, ← HRs.out.len]; rfl) HW.out HBw.out
theorem formOf_any (s : ByteArray) (b : List UInt8) (bo : Option Addr) (bcap bn : Nat) (w : World) (hB : IsB w bo bcap b) (hn : b.length = bn) (h9 : bn ≤ 9000) (hs0 : 0 < s.size) (hs7 : s.size ≤ 90) :
    Calls Tryz.prog 34 #[.string s, .slice bo bn bcap] w fun e w' => FoOut w (Fm.mark s.data.toList) b e w' := formOf_at _ s b bo bcap bn w hB hn h9 hs0 hs7 rfl
end Go.Proofs.YtjpenioloeplgacGreatDoor

/- The document's own answer for forms, walked: FormParts. -/
namespace Go.Proofs.YtjpenioloeplgacGreatDoor
open Go.RowKit

/-- what a reader tells is the document's own answer -/
theorem of_join {s : List UInt8} (h : Fm.isMark s = true) (l : List UInt8) : joinD (Fm.outs (Fm.mark s) Fm.start l) = (Fm.of (Fm.mark s) l).1 ∧ Fm.close (Fm.fold (Fm.mark s) Fm.start l) = (Fm.of (Fm.mark s) l).2 := by
  obtain ⟨h1, h2⟩ := isMark_facts h
  obtain ⟨m2, m5, _⟩ := Fm.mark_facts s h1 h2
  obtain ⟨r1, r2⟩ := Fm.of_run m2 m5 l
  exact ⟨by rw [← (Fm.flush_tells _ (Fm.clean_outs _ _ _)).1, r1], r2⟩
/-- .. and how much it is -/
theorem of_few {s : List UInt8} (h : Fm.isMark s = true) (l : List UInt8) : (Fm.of (Fm.mark s) l).1.length ≤ 2 * l.length ∧ Fm.Led (Fm.of (Fm.mark s) l).1 ∧ ∀ e ∈ (Fm.of (Fm.mark s) l).1, Fm.Fine e := by
  obtain ⟨h1, h2⟩ := isMark_facts h
  obtain ⟨_, m5, _⟩ := Fm.mark_facts s h1 h2
  rw [← (of_join h l).1]
  have hg := Fm.Good.start (m := Fm.mark s) (by omega)
  have h3 := Fm.outs_few (by omega) l hg
  have h4 := joinD_length (Fm.outs (Fm.mark s) Fm.start l)
  exact ⟨by omega, Fm.told_led _ _, Fm.fine_join (Fm.fine_outs (by omega) l hg)⟩
/-- what FormParts answers -/
inductive FpOut (w : World) (s l : List UInt8) (e : Ending) (w' : World) : Prop
  | no (c : Nat) (hc : c ≠ 0) (h : Fm.isMark s = false ∧ c = 5 ∨ Fm.isMark s = true ∧ (Fm.of (Fm.mark s) l).2 = c) (he : e = .returned (.tuple #[.slice none 0 0, .int .i64 (c : Int)])) (hb : Below w.heap.size w w')
  | yes (hm : Fm.isMark s = true) (h : (Fm.of (Fm.mark s) l).2 = 0) (w1 : World) (ao : Option Addr) (cap n : Nat) (he : e = .returned (.tuple #[.slice ao n cap, .int .i64 0])) (hP : PtRel w1 (Fm.gath (Fm.of (Fm.mark s) l).1) ao cap n w') (hb : Below w.heap.size w w')

set_option maxRecDepth 100000 in
set_option maxHeartbeats 4000000 in
theorem partsR_any (s : ByteArray) (l : List UInt8) (bo : Option Addr) (bcap n : Nat) (w : World) (hs : s.size ≤ maxLen) (hB : IsB w bo bcap l) (hn : l.length = n) (hl : n ≤ 9000) :
    Calls Tryz.prog 31 #[.string s, .slice bo n bcap] w fun e w' => FpOut w s.data.toList l e w' := by
  have HIm := Hid.mk' (isMarkR_any s w hs)
  have HB := Hid.mk' hB; have HN := Hid.mk' hn
  clear hB hn
  cases hm : Fm.isMark s.data.toList with
  | false =>
    rw [hm] at HIm
    have HM := Hid.mk' hm
    clear hm
    go_enter Tryz.func31, Tryz.ntmps31
    go_wp2_with fail
    refine HIm.out.mono ?_
    rintro e w1 ⟨rfl, hw⟩
    subst hw
    go_wp2
    go_ret2
    exact .no 5 (by decide) (Or.inl ⟨HM.out, rfl⟩) rfl (Below.refl _ _)
  | true =>
    rw [hm] at HIm
    have hf := isMark_facts hm
    have hz : 0 < s.size ∧ s.size ≤ 70 := by
      have h1 := hf.2
      rw [Ch.len_list] at h1
      refine ⟨?_, h1⟩
      rw [← Ch.len_list]; exact List.length_pos_iff.2 hf.1
    have HFo := Hid.mk' (formOf_any s l bo bcap n w HB.out HN.out hl hz.1 (by omega))
    obtain ⟨hfew, hled, _⟩ := of_few hm l
    rw [HN.out] at hfew
    have HM := Hid.mk' hm; have HLed := Hid.mk' hled
    unfold FoOut at HFo
    obtain ⟨es, hes⟩ : ∃ es, (Fm.of (Fm.mark s.data.toList) l).1 = es := ⟨_, rfl⟩
    obtain ⟨cc, hcc⟩ : ∃ cc, (Fm.of (Fm.mark s.data.toList) l).2 = cc := ⟨_, rfl⟩
    rw [hes] at HFo HLed hfew
    rw [hcc] at HFo
    have HEs := Hid.mk' hes; have HCc := Hid.mk' hcc
    clear hes hcc hm hf hled
    go_enter Tryz.func31, Tryz.ntmps31
    go_wp2_with fail
    refine HIm.out.mono ?_
    rintro e w1 ⟨rfl, hw⟩
    subst hw
    go_wp2_with fail
    refine HFo.out.mono ?_
    rintro e w2 ⟨a2, c2, rfl, hW, hb2⟩
    have HE := Hid.mk' hW.isEs; have HB2 := Hid.mk' hb2
    clear hW hb2 HFo HIm
    by_cases hc : cc = 0
    · have tc : ((cc : Int) != 0) = false := by rw [hc]; rfl
      have HC0 := Hid.mk' hc
      clear hc
      obtain ⟨i0, hi0, hz0, hz1, hz2⟩ := info_parts info_part
      have Hi := Hid.mk' hi0; have Hz0 := Hid.mk' hz0; have Hz1 := Hid.mk' hz1; have Hz2 := Hid.mk' hz2
      clear hi0 hz0 hz1 hz2
      go_wp2
      clear tc
      go_loopw [8, 9] (fun vo vi wr => ∃ (i m : Nat) (ao' : Option Addr) (cap' : Nat), i ≤ es.length ∧ vi = .int .i64 i ∧ vo = .slice ao' m cap' ∧ PtRel w2 (Fm.gath (es.take i)) ao' cap' m wr) (fun _ vi _ => es.length - (intOf vi).toNat)
      case atStart => exact ⟨0, 0, none, 0, Nat.zero_le _, rfl, rfl, PtRel.start w2⟩
      case round =>
        obtain ⟨i, m, ao', cap', hi, rfl, rfl, hP⟩ := hrel
        have HP := Hid.mk' hP
        have hml : m ≤ 100000 := by have h1 := hP.len; have h2 := Fm.gath_length (es.take i); rw [List.length_take] at h2; omega
        clear hP
        by_cases hlt : i < es.length
        · have hlt' : (i : Int) < es.length := by omega
          obtain ⟨b, o, rfl, hEs⟩ := HE.out.lit (by omega)
          obtain ⟨st, hE⟩ := hEs i hlt
          have hcap := HE.out.1
          have hlead := fun h2 => Fm.gath_some _ _ rfl (HLed.out.at_ hlt h2)
          have HTk : Hid (Fm.gath (es.take (i + 1)) = Fm.laid (Fm.gath (es.take i)) es[i]) := by
            unfold Hid
            rw [List.take_succ_eq_append_getElem hlt, Fm.gath_snoc]
          clear hEs
          generalize es[i] = e at *
          have hcl : ∀ j u, (e.cells st)[j]? = some u → wr.cell? ⟨b, o + i * 12 + j, none⟩ = some u := fun j u hu => (HP.out.below.cell (World.block_lt_of_cell? w2 _ (hE.at_ j u hu))).trans (hE.at_ j u hu)
          have c0 : wr.cell? ⟨b, o + i * 12, none⟩ = some (.int .i64 e.kind) := hcl 0 _ rfl
          have c6 : wr.cell? ⟨b, o + i * 12 + 6, none⟩ = some (.slice st.bo e.bytes.length st.bcap) := hcl 6 _ rfl
          have c7 : wr.cell? ⟨b, o + i * 12 + 7, none⟩ = some (.string e.pname) := hcl 7 _ rfl
          have c8 : wr.cell? ⟨b, o + i * 12 + 8, none⟩ = some (.string e.pfile) := hcl 8 _ rfl
          have c9 : wr.cell? ⟨b, o + i * 12 + 9, none⟩ = some (.string e.ptype) := hcl 9 _ rfl
          have c10 : wr.cell? ⟨b, o + i * 12 + 10, none⟩ = some (.slice st.po e.pbytes.length st.pcap) := hcl 10 _ rfl
          have HBy : Hid (IsB w2 st.bo st.bcap e.bytes ∧ IsB w2 st.po st.pcap e.pbytes) := ⟨hE.bytes, hE.pbytes⟩
          have HCc2 : Hid (∀ w', wr.grownBy w' (blockOf ao') ∨ (∃ ob, (wr.alloc ob).grownBy w' (blockOf ao')) → w'.cell? ⟨b, o + i * 12, none⟩ = some (.int .i64 e.kind)) := fun w' hg => by
            have hlo := World.block_lt_of_cell? w2 _ (hE.at_ 0 _ rfl)
            have hne : ∀ a, ao' = some a → a.block ≠ b := fun a ea eb => by
              subst ea
              obtain ⟨qs, _, hO, _⟩ := HP.out.own
              have := (hO.block a rfl).1
              have : b < w2.heap.size := hlo
              omega
            have hb' : b < wr.heap.size := Nat.lt_of_lt_of_le hlo HP.out.below.size
            rcases hg with hg | ⟨ob, hg⟩
            · have h1 : w'.heap[b]? = wr.heap[b]? := hg.block b hb' (fun ea => by
                cases ao' with
                | none => cases ea
                | some a => injection ea with ea; exact hne a rfl ea.symm)
              rw [World.cell?_of_block (a := ⟨b, o + i * 12, none⟩) h1]; exact c0
            · have h1 : w'.heap[b]? = (wr.alloc ob).heap[b]? := hg.block b (by rw [World.size_alloc]; omega) (fun ea => by
                cases ao' with
                | none => cases ea
                | some a => injection ea with ea; exact hne a rfl ea.symm)
              rw [World.cell?_of_block (a := ⟨b, o + i * 12, none⟩) (h1.trans (Below.heap_alloc wr ob b hb'))]; exact c0
          clear hcl hE
          obtain ⟨nb, hnb⟩ : ∃ nb, e.bytes.length = nb := ⟨_, rfl⟩
          obtain ⟨npb, hnpb⟩ : ∃ npb, e.pbytes.length = npb := ⟨_, rfl⟩
          rw [hnb] at c6
          rw [hnpb] at c10
          have HNb := Hid.mk' hnb; have HNpb := Hid.mk' hnpb
          clear hnb hnpb
          by_cases h5 : e.kind = 5
          · have t5 : (e.kind == 5) = true := beq_iff_eq.2 h5
            have t2 : (e.kind == 2) = false := by rw [h5]; rfl
            have hld : Fm.laid (Fm.gath (es.take i)) e = Fm.gath (es.take i) ++ [⟨e.pname, e.pfile, e.ptype, e.pbytes⟩] := by unfold Fm.laid; rw [if_pos h5]
            obtain ⟨xs, hO, hpu⟩ := (HP.out.stay ((Below.refl _ _).alloc (Nat.le_refl _) (.cells #[.string e.pname, .string e.pfile, .string e.ptype, .slice st.po npb st.pcap] 30))).push
            have HO := Hid.mk' hO; have HPu := Hid.mk' hpu; have HLd := Hid.mk' (HTk.out.trans hld)
            have HCl : Hid (ptC ⟨e.pname, e.pfile, e.ptype, e.pbytes⟩ ⟨st.po, st.pcap⟩ = [.string e.pname, .string e.pfile, .string e.ptype, .slice st.po npb st.pcap]) := by unfold Hid ptC; rw [HNpb.out]
            have HSz : Hid (w2.heap.size ≤ wr.heap.size) := HP.out.below.size
            clear h5 hld hO hpu hlead HTk
            generalize e.kind = ek at *
            go_wp2_with (at_builtin; refine wpList_append_v rfl (.tmp 34) (.tmp 40) 62 rfl w2.heap.size 30 i0 (.agg #[.string ⟨#[]⟩, .string ⟨#[]⟩, .string ⟨#[]⟩, .slice none 0 0]) 4 72 Tryz.underlying62 Hi.out Hz0.out Hz1.out Hz2.out rfl (by decide) rfl HO.out rfl (IsV.madeAt _ _ 1 _ _ (by simp)) rfl (fun u hu => by simp at hu; rcases hu with rfl | rfl | rfl | rfl <;> rfl) (by omega) (by omega) (by rw [World.size_alloc]; have := HSz.out; omega) ?_; intro a3 c3 w3 hO3 hG3 hat3; have d0 := HCc2.out w3 (Or.inr ⟨_, hG3⟩); have HPp := Hid.mk' (HPu.out a3 c3 w3 ⟨e.pname, e.pfile, e.ptype, e.pbytes⟩ ⟨st.po, st.pcap⟩ HBy.out.2 (by rw [HCl.out]; exact hO3) hG3); clear hO3 hG3 hat3)
            go_roundw
            case rel => exact ⟨i + 1, m + 1, a3, c3, by omega, by go_num, rfl, by rw [HLd.out]; exact HPp.out⟩
            case measure => simp [intOf]; omega
          · have t5 : (e.kind == 5) = false := beq_eq_false_iff_ne.2 h5
            by_cases h2 : e.kind = 2
            · have t2 : (e.kind == 2) = true := beq_iff_eq.2 h2
              have hpos := hlead h2
              obtain ⟨qs, p, hqp⟩ : ∃ qs p, Fm.gath (es.take i) = qs ++ [p] := by
                rcases List.eq_nil_or_concat (Fm.gath (es.take i)) with e0 | ⟨q, x, e0⟩
                · rw [e0] at hpos; simp at hpos
                · exact ⟨q, x, by rw [e0, List.concat_eq_append]⟩
              have hld : Fm.laid (Fm.gath (es.take i)) e = qs ++ [{ p with bytes := e.bytes }] := by
                unfold Fm.laid; rw [if_neg h5, if_pos h2, hqp, List.dropLast_concat, List.getLast?_append]; rfl
              have HLd := Hid.mk' (HTk.out.trans hld)
              rw [hqp] at HP
              obtain ⟨k, rfl⟩ : ∃ k, m = k + 1 := ⟨m - 1, by have h1 := HP.out.len; rw [List.length_append] at h1; simp at h1; omega⟩
              obtain ⟨g, rfl, ⟨v, cv⟩, fv, hc1, hby⟩ := HP.out.bytes
              have HPp := Hid.mk' (hby e.bytes st.bo st.bcap nb HBy.out.1 HNb.out.symm)
              have m0 : (0 : Int) ≤ (k : Int) := by omega
              have m1 : (k : Int) < (k : Int) + 1 := by omega
              have m2 : ((k + 1 : Nat) : Int) - 1 = (k : Int) := by omega
              clear h5 h2 hld hlead HTk hpos hqp hby
              generalize e.kind = ek at *
              go_wp2
              go_roundw
              case rel => exact ⟨i + 1, k + 1, some ⟨g, 0, none⟩, cap', by omega, by go_num, rfl, by rw [HLd.out]; exact HPp.out⟩
              case measure => simp [intOf]; omega
            · have t2 : (e.kind == 2) = false := beq_eq_false_iff_ne.2 h2
              have hld : Fm.laid (Fm.gath (es.take i)) e = Fm.gath (es.take i) := by unfold Fm.laid; rw [if_neg h5, if_neg h2]
              have HLd := Hid.mk' (HTk.out.trans hld)
              clear h5 h2 hld hlead HTk
              generalize e.kind = ek at *
              go_wp2
              go_roundw
              case rel => exact ⟨i + 1, m, ao', cap', by omega, by go_num, rfl, by rw [HLd.out]; exact HP.out⟩
              case measure => simp [intOf]; omega
        · obtain rfl : i = es.length := by omega
          have HPf := Hid.mk' HP.out
          rw [List.take_length, ← HEs.out] at HPf
          go_wp2
          go_ret2
          exact .yes HM.out (HCc.out.trans HC0.out) w2 ao' cap' m rfl HPf.out (then_ HB2.out HPf.out.below)
    · have tc : ((cc : Int) != 0) = true := by rw [bne_iff_ne]; omega
      have HC0 := Hid.mk' hc
      clear hc
      go_wp2
      go_ret2
      exact .no cc HC0.out (Or.inr ⟨HM.out, HCc.out⟩) rfl HB2.out
end Go.Proofs.YtjpenioloeplgacGreatDoor

/- FormDoes, walked: every Mark, New, Feed of all bytes at once, Close and Read is as the document says. -/
namespace Go.Proofs.YtjpenioloeplgacGreatDoor
open Go.RowKit

/-- the parts of a form, and a code -/
def Fm.pts (s l : List UInt8) : List Fm.Pt := if Fm.isMark s = true ∧ (Fm.of (Fm.mark s) l).2 = 0 then Fm.gath (Fm.of (Fm.mark s) l).1 else []
def Fm.ptc (s l : List UInt8) : Nat := if Fm.isMark s = true then (Fm.of (Fm.mark s) l).2 else 5
/-- what Read answers, and FormParts -/
def PtsOut (w : World) (s l : List UInt8) (e : Ending) (w' : World) : Prop := ∃ a cap, e = .returned (.tuple #[.slice a (Fm.pts s l).length cap, .int .i64 (Fm.ptc s l : Int)]) ∧ IsPts w' a cap (Fm.pts s l) ∧ Below w.heap.size w w'
theorem PtsOut.read {w : World} {s l : List UInt8} {e : Ending} {w' : World} (h : ReadOut w s l e w') : PtsOut w s l e w' := by
  cases h with
  | no c hc h he hb =>
    rcases h with ⟨h1, h2⟩ | ⟨h1, h2⟩
    · have e1 : Fm.pts s l = [] := by unfold Fm.pts; rw [if_neg (fun k => by rw [h1] at k; cases k.1)]
      have e2 : Fm.ptc s l = c := by unfold Fm.ptc; rw [if_neg (by rw [h1]; simp), h2]
      exact ⟨none, 0, by rw [e1, e2]; exact he, by rw [e1]; exact IsPts.nil _, hb⟩
    · rw [(of_join h1 l).2] at h2
      have e1 : Fm.pts s l = [] := by unfold Fm.pts; rw [if_neg (fun k => by rw [h2] at k; exact hc k.2)]
      have e2 : Fm.ptc s l = c := by unfold Fm.ptc; rw [if_pos h1, h2]
      exact ⟨none, 0, by rw [e1, e2]; exact he, by rw [e1]; exact IsPts.nil _, hb⟩
  | yes hm h w1 ao cap n he hP hb =>
    rw [(of_join hm l).2] at h
    rw [(of_join hm l).1] at hP
    have e1 : Fm.pts s l = Fm.gath (Fm.of (Fm.mark s) l).1 := by unfold Fm.pts; rw [if_pos ⟨hm, h⟩]
    have e2 : Fm.ptc s l = 0 := by unfold Fm.ptc; rw [if_pos hm, h]
    exact ⟨ao, cap, by rw [e1, e2, ← hP.len]; exact he, by rw [e1]; exact hP.isPts, hb⟩
theorem PtsOut.parts {w : World} {s l : List UInt8} {e : Ending} {w' : World} (h : FpOut w s l e w') : PtsOut w s l e w' := by
  cases h with
  | no c hc h he hb =>
    rcases h with ⟨h1, h2⟩ | ⟨h1, h2⟩
    · have e1 : Fm.pts s l = [] := by unfold Fm.pts; rw [if_neg (fun k => by rw [h1] at k; cases k.1)]
      have e2 : Fm.ptc s l = c := by unfold Fm.ptc; rw [if_neg (by rw [h1]; simp), h2]
      exact ⟨none, 0, by rw [e1, e2]; exact he, by rw [e1]; exact IsPts.nil _, hb⟩
    · have e1 : Fm.pts s l = [] := by unfold Fm.pts; rw [if_neg (fun k => by rw [h2] at k; exact hc k.2)]
      have e2 : Fm.ptc s l = c := by unfold Fm.ptc; rw [if_pos h1, h2]
      exact ⟨none, 0, by rw [e1, e2]; exact he, by rw [e1]; exact IsPts.nil _, hb⟩
  | yes hm h w1 ao cap n he hP hb =>
    have e1 : Fm.pts s l = Fm.gath (Fm.of (Fm.mark s) l).1 := by unfold Fm.pts; rw [if_pos ⟨hm, h⟩]
    have e2 : Fm.ptc s l = 0 := by unfold Fm.ptc; rw [if_pos hm, h]
    exact ⟨ao, cap, by rw [e1, e2, ← hP.len]; exact he, by rw [e1]; exact hP.isPts, hb⟩
theorem pts_few (s l : List UInt8) : (Fm.pts s l).length ≤ 2 * l.length := by
  unfold Fm.pts
  split
  · rename_i h
    have := Fm.gath_length (Fm.of (Fm.mark s) l).1
    have := (of_few h.1 l).1
    omega
  · exact Nat.zero_le _

set_option maxRecDepth 100000 in
set_option maxHeartbeats 8000000 in
theorem formDoes_any (s : ByteArray) (w : World) (l : List UInt8) (bo : Option Addr) (bcap n : Nat) (hs : s.size ≤ maxLen) (hB : IsB w bo bcap l) (hn : l.length = n) :
    Calls Tryz.prog 7 #[.string s, .slice bo n bcap] w fun e w' => e = .returned (.bool true) ∧ Below w.heap.size w w' := by
  have HB := Hid.mk' hB; have HN := Hid.mk' hn
  have HSz := Hid.mk' hs
  clear hB hs
  go_enter Tryz.func7, Tryz.ntmps7
  go_wp2_with fail
  refine (formBegun_any w).mono ?_
  rintro e w1 ⟨rfl, h1⟩
  have H1 := Hid.mk' h1
  clear h1 hn
  by_cases hbig : 9000 < n
  · have t : decide ((n : Int) > 9000) = true := decide_eq_true (by omega)
    go_wp2
    go_ret
    exact ⟨rfl, H1.out⟩
  have t : decide ((n : Int) > 9000) = false := decide_eq_false (by omega)
  by_cases hbg2 : 300 < s.size
  · have t2 : decide ((s.size : Int) > 300) = true := decide_eq_true (by omega)
    go_wp2
    go_ret
    exact ⟨rfl, H1.out⟩
  have t2 : decide ((s.size : Int) > 300) = false := decide_eq_false (by omega)
  go_wp2_with fail
  refine (newForm_any s w1).mono ?_
  rintro e w2 hN
  have HIm := Hid.mk' (isMarkR_any s w2 HSz.out)
  have HMk := Hid.mk' (mark_any s w2)
  have HRd := Hid.mk' (fun W (hW : Below w.heap.size w W) => (read_any s l bo bcap n W (HB.out.stay hW) HN.out (by omega)).mono (fun e w' h => PtsOut.read h))
  have HPa := Hid.mk' (fun W (hW : Below w.heap.size w W) => (partsR_any s l bo bcap n W HSz.out (HB.out.stay hW) HN.out (by omega)).mono (fun e w' h => PtsOut.parts h))
  have hpf := pts_few s.data.toList l
  rw [HN.out] at hpf
  unfold PtsOut at HRd HPa
  have HSm : Hid (∀ W a1 a2 c1 c2, IsPts W a1 c1 (Fm.pts s.data.toList l) → IsPts W a2 c2 (Fm.pts s.data.toList l) → Calls Tryz.prog 32 #[.slice a1 (Fm.pts s.data.toList l).length c1, .slice a2 (Fm.pts s.data.toList l).length c2] W fun e w' => e = .returned (.bool true) ∧ Below W.heap.size W w') := fun W a1 a2 c1 c2 h1 h2 => sameParts_yes _ a1 a2 c1 c2 W h1 h2 (by omega)
  generalize Fm.pts s.data.toList l = ps at *
  generalize hpc : Fm.ptc s.data.toList l = pc at *
  have HPc := Hid.mk' hpc
  clear hpc
  have tpc : ((pc : Int) != pc) = false := by rw [bne_self_eq_false]
  have tpe : ((pc : Int) == pc) = true := by rw [beq_self_eq_true]
  cases hN with
  | no hm he hb2 =>
    subst he
    rw [hm] at HIm HMk
    have HB2 := Hid.mk' (then_ H1.out hb2)
    clear hb2 hm t t2
    go_wp2_with fail
    refine HIm.out.mono ?_
    rintro e w3 ⟨rfl, hw⟩
    subst hw
    go_wp2_with fail
    refine HMk.out.mono ?_
    rintro e w4 ⟨rfl, hb4⟩
    have HB4 := Hid.mk' (then_ HB2.out hb4)
    clear hb4 HB2 HIm HMk
    go_wp2_with fail
    refine (HRd.out _ HB4.out).mono ?_
    rintro e w5 ⟨a5, c5, rfl, hP5, hb5⟩
    have HB5 := Hid.mk' (then_ HB4.out hb5); have HP5 := Hid.mk' hP5
    clear hb5 hP5 HB4 HRd
    go_wp2_with fail
    refine (HPa.out _ HB5.out).mono ?_
    rintro e w6 ⟨a6, c6, rfl, hP6, hb6⟩
    have HB6 := Hid.mk' (then_ HB5.out hb6); have HP6 := Hid.mk' hP6; have HP5' := Hid.mk' (HP5.out.stay hb6)
    clear hb6 hP6 HB5 HPa HP5
    have HS6 := Hid.mk' (HSm.out w6 a5 a6 c5 c6 HP5'.out HP6.out)
    go_wp2_with fail
    refine HS6.out.mono ?_
    rintro e w7 ⟨rfl, hb7⟩
    have HS7 := Hid.mk' (HSm.out w7 a5 a6 c5 c6 (HP5'.out.stay hb7) (HP6.out.stay hb7))
    have HB7 := Hid.mk' (then_ HB6.out hb7)
    clear hb7 HB6 HS6
    go_wp2_with fail
    refine HS7.out.mono ?_
    rintro e w8 ⟨rfl, hb8⟩
    have HB8 := Hid.mk' (then_ HB7.out hb8)
    clear hb8 HB7 HS7
    go_wp2
    go_ret
    exact ⟨rfl, HB8.out⟩
  | yes hm g he hF hb2 =>
    subst he
    rw [hm] at HIm HMk
    have HM := Hid.mk' hm
    have HB2 := Hid.mk' (then_ H1.out hb2)
    have s1 := H1.out.size
    have HF2 : Hid (FmAt w2 (fun k => w1.heap.size ≤ k ∧ k < w2.heap.size) g (Fm.mark s.data.toList) Fm.start) := hF.mono (fun k hk e => ⟨e, hk⟩)
    have Hs : Hid (w.heap.size ≤ w1.heap.size ∧ w1.heap.size ≤ w2.heap.size) := ⟨s1, hb2.size⟩
    have hfa := isMark_facts hm
    have hz : 0 < s.size ∧ s.size ≤ 90 := by
      have h1 := hfa.2
      rw [Ch.len_list] at h1
      refine ⟨?_, by omega⟩
      rw [← Ch.len_list]; exact List.length_pos_iff.2 hfa.1
    obtain ⟨hoj, hoc⟩ := of_join hm l
    obtain ⟨hfew, _, hfine⟩ := of_few hm l
    rw [HN.out] at hfew
    have HOk := Hid.mk' (start_ok hm)
    have HFo := Hid.mk' (fun W (hW : Below w.heap.size w W) => formOf_any s l bo bcap n W (HB.out.stay hW) HN.out (by omega) hz.1 hz.2)
    unfold FoOut at HFo
    have HJ := Hid.mk' hoj; have HCl := Hid.mk' hoc; have HFi := Hid.mk' hfine
    clear hb2 hF hm t t2 s1 hfa hoj hoc hfine
    generalize (Fm.of (Fm.mark s.data.toList) l) = OF at *
    obtain ⟨es, oc⟩ := OF
    simp only at *
    generalize Fm.mark s.data.toList = mm at *
    go_wp2_with fail
    refine HIm.out.mono ?_
    rintro e w3 ⟨rfl, hw⟩
    subst hw
    go_wp2_with fail
    refine HMk.out.mono ?_
    rintro e w4 ⟨rfl, hb4⟩
    have HB4 := Hid.mk' (then_ HB2.out hb4); have HF4 := Hid.mk' (HF2.out.stay hb4)
    have Hs4 : Hid (w3.heap.size ≤ w4.heap.size) := hb4.size
    clear hb4 HB2 HIm HMk HF2
    go_wp2_with fail
    refine (HRd.out _ HB4.out).mono ?_
    rintro e w5 ⟨a5, c5, rfl, hP5, hb5⟩
    have HB5 := Hid.mk' (then_ HB4.out hb5); have HP5 := Hid.mk' hP5; have HF5 := Hid.mk' (HF4.out.stay hb5)
    clear hb5 hP5 HB4 HRd HF4
    go_wp2_with fail
    refine (HPa.out _ HB5.out).mono ?_
    rintro e w6 ⟨a6, c6, rfl, hP6, hb6⟩
    have HB6 := Hid.mk' (then_ HB5.out hb6); have HP6 := Hid.mk' hP6; have HP5' := Hid.mk' (HP5.out.stay hb6); have HF6 := Hid.mk' (HF5.out.stay hb6)
    clear hb6 hP6 HB5 HPa HP5 HF5
    have HS6 := Hid.mk' (HSm.out w6 a5 a6 c5 c6 HP5'.out HP6.out)
    go_wp2_with fail
    refine HS6.out.mono ?_
    rintro e w7 ⟨rfl, hb7⟩
    have HB7 := Hid.mk' (then_ HB6.out hb7); have HF7 := Hid.mk' (HF6.out.stay hb7)
    clear hb7 HB6 HS6 HF6 HP5' HP6 HSm
    have HFd := Hid.mk' (feedForm_any w7 _ g mm Fm.start l bo bcap n HF7.out HOk.out (HB.out.stay HB7.out) (fun hne a e k => by
      subst e
      have hp : 0 < l.length := List.length_pos_iff.2 hne
      have := World.block_lt_of_cell? w _ (HB.out.cell 0 hp)
      rw [add_block] at this
      have := Hs.out
      omega) HN.out (by omega))
    go_wp2_with fail
    refine HFd.out.mono ?_
    rintro e w8 ⟨qa, qc, qn, S', So', he, hqn, hR8, hO8, _, _, _, hT8⟩
    subst he
    rw [HJ.out] at hqn hO8
    subst hqn
    have hB8 : Below w.heap.size w w8 := HB7.out.trans (hT8.below (fun k e => by have := Hs.out; omega) HB7.out.size)
    have HE8 := Hid.mk' hO8.isEs
    have HR8 := Hid.mk' hR8; have HB8 := Hid.mk' hB8
    clear hR8 hO8 hT8 hB8 HFd HF7
    go_wp2_with fail
    refine (HFo.out _ HB8.out).mono ?_
    rintro e w9 ⟨fa, fc, rfl, hW9, hb9⟩
    have HE9 := Hid.mk' (HE8.out.stay hb9)
    have HR9 := Hid.mk' (HR8.out.stay hb9); have HB9 := Hid.mk' (then_ HB8.out hb9)
    have HSe := Hid.mk' (sameEvents_yes es qa fa qc fc w9 HE9.out hW9.isEs (by omega) (fun e he => by rw [(HFi.out e he).fields]; exact Nat.zero_le _))
    clear hW9 hb9 HFo HE8 HR8 HB8
    have toc : ((oc : Int) == oc) = true := by rw [beq_self_eq_true]
    go_wp2_with fail
    refine HSe.out.mono ?_
    rintro e w10 ⟨rfl, hb10⟩
    have hcl := close_any w10 S' g mm _ (HR9.out.stay hb10)
    rw [HCl.out] at hcl
    have HCa := Hid.mk' hcl
    have HB10 := Hid.mk' (then_ HB9.out hb10)
    clear hb10 HSe hcl
    go_wp2_with fail
    refine HCa.out.mono ?_
    rintro e w11 ⟨rfl, hw⟩
    subst hw
    go_wp2
    go_ret
    exact ⟨rfl, HB10.out⟩
end Go.Proofs.YtjpenioloeplgacGreatDoor
