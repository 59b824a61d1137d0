/- LinesDoes, walked: every Feed and Begun against the document's own answer. -/
import Derived.Test.YtemgjebgncmglaaLinH
import Derived.Test.YtemgjebgncmglaaRfLine
namespace Go.Proofs.Ytemgjebgncmglaa
open Go.RowKit

theorem linesDoes_long (ab : Option Addr) (n cap : Nat) (w : World) (h : 2000 < n) :
    Calls Try.prog 5 #[.slice ab n cap] w fun e w' => e = .returned (.bool true) ∧ Below w.heap.size w w' := by
  go_enter Try.func5, Try.ntmps5
  go_wp2_with fail
  refine (linesBegun_any _).mono ?_
  rintro e w1 ⟨rfl, hb1⟩
  go_wp2
  go_ret
  exact ⟨rfl, hb1⟩

/-- what the loop keeps -/
structure LnRel (w : World) (lo g : Nat) (b : List UInt8) (i fr : Nat) (s : Ln.St) (wr : World) : Prop where
  line : LineAt wr (fun k => lo ≤ k) g s
  good : Ln.Good s
  below : Below w.heap.size w wr
  lo_ : w.heap.size ≤ lo
  size : lo ≤ wr.heap.size
  fr_ : fr ≤ i
  came : s.code = 0 → (b.drop fr).take (i - fr) = Ln.came s
theorem LnRel.next {w : World} {lo g : Nat} {b : List UInt8} {i fr : Nat} {s : Ln.St} {wr w' : World} (h : LnRel w lo g b i fr s wr) {c : UInt8} (hL : LineAt w' (fun k => lo ≤ k) g (Ln.next s c)) (hb : Below lo wr w') (fr' : Nat) (hfr : fr' ≤ i + 1)
    (hc : (Ln.next s c).code = 0 → (b.drop fr').take (i + 1 - fr') = Ln.came (Ln.next s c)) : LnRel w lo g b (i + 1) fr' (Ln.next s c) w' :=
  ⟨hL, Ln.next_good h.good, h.below.trans (hb.mono h.lo_), h.lo_, Nat.le_trans h.size hb.size, hfr, hc⟩
theorem cut_snoc (b : List UInt8) (fr i : Nat) (h : fr ≤ i) (hi : i < b.length) : (b.drop fr).take (i + 1 - fr) = (b.drop fr).take (i - fr) ++ [b[i]] := by
  have e : i + 1 - fr = (i - fr) + 1 := by omega
  have hl : i - fr < (b.drop fr).length := by rw [List.length_drop]; omega
  rw [e, List.take_succ_eq_append_getElem hl, List.getElem_drop]
  simp only [show fr + (i - fr) = i by omega]

set_option maxRecDepth 100000 in
set_option maxHeartbeats 1600000 in
theorem linesDoes_main (b : List UInt8) (ab : Option Addr) (cap : Nat) (w : World) (hb : IsB w ab cap b) (h2 : b.length ≤ 2000) :
    Calls Try.prog 5 #[.slice ab b.length cap] w fun e w' => e = .returned (.bool true) ∧ Below w.heap.size w w' := by
  have t2 : decide ((b.length : Int) > 2000) = false := by rw [decide_eq_false_iff_not]; omega
  have HB := Hid.mk' hb
  have hcap := hb.1
  clear hb
  go_enter Try.func5, Try.ntmps5
  go_wp2_with fail
  refine (linesBegun_any _).mono ?_
  rintro e w1 ⟨rfl, hb1⟩
  have HN := Hid.mk' (newL_lo w1)
  have B1 := Hid.mk' hb1
  clear hb1
  go_wp2_with fail
  refine HN.out.mono ?_
  rintro e w2 ⟨g, rfl, hS, hb2⟩
  have HR : Hid (LnRel w w1.heap.size g b 0 0 Ln.start w2) :=
    ⟨hS, Ln.Good.start, B1.out.trans (hb2.mono B1.out.size), B1.out.size, hb2.size, Nat.le_refl _, fun _ => by simp [Ln.came, Ln.start]⟩
  clear HN hS hb2 B1
  generalize w1.heap.size = lo at HR
  go_wp2
  go_loopw [4, 5, 6] (fun vf vc t wr => ∃ (i fr : Nat) (s : Ln.St), i ≤ b.length ∧ t = .int .i64 i ∧ vf = .int .i64 fr ∧ vc = .int .i64 s.code ∧ LnRel w lo g b i fr s wr) (fun _ _ t _ => b.length - (intOf t).toNat)
  case atStart => exact ⟨0, 0, Ln.start, Nat.zero_le _, rfl, rfl, rfl, HR.out⟩
  case round =>
    clear HR
    obtain ⟨i, fr, s, hib, rfl, rfl, rfl, hR⟩ := hrel
    have HR := Hid.mk' hR
    have hfr := hR.fr_
    clear hR
    by_cases hlt : i < b.length
    · obtain ⟨bb, oo, rfl, hcs⟩ := HB.out.lit (by omega)
      have hcell := ((HB.out.stay HR.out.below).cell i hlt)
      rw [Addr.add_lit] at hcell
      have hlt' : (i : Int) < b.length := by omega
      obtain ⟨c, hc⟩ : ∃ c, b[i] = c := ⟨_, rfl⟩
      rw [hc] at hcell
      have HF := Hid.mk' (feedL_lo wr lo g s c HR.out.line HR.out.good.short HR.out.size)
      clear hcs
      by_cases h0 : s.code = 0
      · have hcm := cut_snoc b fr i hfr hlt
        rw [HR.out.came h0, hc] at hcm
        have hof := Ln.of_came HR.out.good h0 c
        have hcn := Ln.came_next (c := c) h0
        have hlen : (Ln.came s).length = i - fr := by
          have := congrArg List.length (HR.out.came h0)
          rw [List.length_take, List.length_drop] at this; omega
        have HLn := Hid.mk' (fun (W : World) (hW : Below w.heap.size w W) => lineOf_any (Ln.came s ++ [c]) (some ⟨bb, oo + fr, none⟩) (cap - fr) (i + 1 - fr) W (by
          have := ((HB.out.stay hW).cut (ao' := some ⟨bb, oo + fr, none⟩) fr (i + 1) (by omega) (by omega) (fun _ => by simp [Addr.add_lit]))
          rwa [hcm] at this) (by rw [List.length_append, hlen]; simp; omega) (by omega))
        have hLv : Ln.val (Ln.of (Ln.came s ++ [c])) = .tuple #[.string ⟨(Ln.text s c).toArray⟩, .int .i64 ((Ln.of (Ln.came s ++ [c])).size : Int), .bool (Ln.ends s c), .int .i64 ((Ln.next s c).code : Int)] := by
          unfold Ln.val; rw [hof.1, hof.2.1, hof.2.2.1]
        rw [hLv] at HLn
        have hsz := hof.2.2.2
        rw [hlen] at hsz
        unfold Ln.fed at HF
        have HBg := Hid.mk' (fun (W : World) (hL : LineAt W (fun k => lo ≤ k) g (Ln.next s c)) => begunLines_any W _ g _ hL)
        rw [Ln.begun_came] at HBg
        have k1 : (fr : Int) ≤ (i : Int) + 1 := by omega
        have k2 : (i : Int) + 1 ≤ cap := by omega
        have k3 : ¬ cap = fr := by omega
        have k4 : ((i : Int) + 1).toNat = i + 1 := by omega
        have k5 : i + 1 - fr ≤ 2000 := by omega
        have HRn := Hid.mk' (fun (w' : World) (hL : LineAt w' (fun k => lo ≤ k) g (Ln.next s c)) (hb : Below lo wr w') => HR.out.next hL hb)
        clear hLv hof hc hlen
        generalize (⟨(Ln.text s c).toArray⟩ : ByteArray) = bs at HF HLn
        generalize (Ln.of (Ln.came s ++ [c])).size = n at HLn hsz
        have t0 : ((s.code : Int) != 0) = false := by rw [h0]; rfl
        by_cases hk : (Ln.next s c).code = 0
        · rw [hk] at HF HLn
          have hcn' := hcn hk
          cases hE : Ln.ends s c
          · rw [hE] at HF HLn hcn'
            rw [if_neg (by simp)] at hcn'
            rw [hcn', ← hcm, decide_eq_true (by rw [List.length_take, List.length_drop]; omega)] at HBg
            have HCn := Hid.mk' (hcm.trans hcn'.symm)
            have HK := Hid.mk' hk
            clear hcn hcn' hcm hsz hE hk h0
            go_wp2_with fail
            refine HF.out.mono ?_
            rintro e w3 ⟨rfl, hL3, hb3⟩
            have HL3 := Hid.mk' hL3; have HB3 := Hid.mk' hb3
            have HW3 := Hid.mk' (HR.out.below.trans (hb3.mono HR.out.lo_))
            clear hL3 hb3 HF
            go_wp2_with fail
            refine (HLn.out _ HW3.out).mono ?_
            rintro e w4 ⟨rfl, hw⟩
            subst hw
            go_wp2_with fail
            refine (HBg.out _ HL3.out).mono ?_
            rintro e w5 ⟨rfl, hw⟩
            subst hw
            go_wp2
            go_roundw
            case rel => exact ⟨i + 1, fr, _, by omega, by go_num, rfl, by rw [HK.out]; rfl, HRn.out _ HL3.out HB3.out fr (by omega) (fun _ => HCn.out)⟩
            case measure => simp [intOf]; omega
          · rw [hE] at HF HLn hcn' hsz
            rw [if_pos rfl] at hcn'
            rw [hcn', show decide (0 < ([] : List UInt8).length) = false from rfl] at HBg
            have hn := hsz rfl
            have HCn := Hid.mk' hcn'
            have HK := Hid.mk' hk
            clear hcn hcn' hcm hsz hE hk h0
            go_wp2_with fail
            refine HF.out.mono ?_
            rintro e w3 ⟨rfl, hL3, hb3⟩
            have HL3 := Hid.mk' hL3; have HB3 := Hid.mk' hb3
            have HW3 := Hid.mk' (HR.out.below.trans (hb3.mono HR.out.lo_))
            clear hL3 hb3 HF
            go_wp2_with fail
            refine (HLn.out _ HW3.out).mono ?_
            rintro e w4 ⟨rfl, hw⟩
            subst hw
            go_wp2_with fail
            refine (HBg.out _ HL3.out).mono ?_
            rintro e w5 ⟨rfl, hw⟩
            subst hw
            go_wp2
            go_roundw
            case rel => exact ⟨i + 1, i + 1, _, by omega, by go_num, by congr 1; omega, by rw [HK.out]; rfl, HRn.out _ HL3.out HB3.out (i + 1) (by omega) (fun _ => by rw [HCn.out]; simp)⟩
            case measure => simp [intOf]; omega
        · have hE := Ln.ends_code hk
          rw [hE] at HF HLn
          have HK := Hid.mk' hk
          have t1 : (((Ln.next s c).code : Int) == 0) = false := by rw [beq_eq_false_iff_ne]; omega
          generalize hkk : (Ln.next s c).code = k at HF HLn t1 HK
          have HKK := Hid.mk' hkk
          clear hcn hcm hsz hE hk h0 hkk HBg
          go_wp2_with fail
          refine HF.out.mono ?_
          rintro e w3 ⟨rfl, hL3, hb3⟩
          have HL3 := Hid.mk' hL3; have HB3 := Hid.mk' hb3
          have HW3 := Hid.mk' (HR.out.below.trans (hb3.mono HR.out.lo_))
          clear hL3 hb3 HF
          go_wp2_with fail
          refine (HLn.out _ HW3.out).mono ?_
          rintro e w4 ⟨rfl, hw⟩
          subst hw
          go_wp2
          go_roundw
          case rel => exact ⟨i + 1, fr, _, by omega, by go_num, rfl, by rw [HKK.out], HRn.out _ HL3.out HB3.out fr (by omega) (fun e => absurd (HKK.out.symm.trans e) HK.out)⟩
          case measure => simp [intOf]; omega
      · have ha := Ln.again c h0
        rw [Ln.fed_of ha.2.1 ha.2.2 ha.1 rfl] at HF
        have HA := Hid.mk' ha.1
        have t0 : ((s.code : Int) != 0) = true := by rw [bne_iff_ne]; omega
        have HC := Hid.mk' h0
        clear ha h0 hc
        generalize hk : s.code = k at *
        have HK := Hid.mk' hk
        clear hk
        go_wp2_with fail
        refine HF.out.mono ?_
        rintro e w3 ⟨rfl, hL3, hb3⟩
        have HL3 := Hid.mk' hL3; have HB3 := Hid.mk' hb3
        clear hL3 hb3 HF
        go_wp2
        go_roundw
        case rel =>
          have hn := HR.out.next HL3.out HB3.out fr (by omega) (fun e => by rw [HA.out, HK.out] at e; exact absurd e HC.out)
          rw [HA.out] at hn
          exact ⟨i + 1, fr, s, by omega, by go_num, rfl, by rw [HK.out], hn⟩
        case measure => simp [intOf]; omega
    · go_wp2
      go_ret
      exact ⟨rfl, HR.out.below⟩
end Go.Proofs.Ytemgjebgncmglaa
