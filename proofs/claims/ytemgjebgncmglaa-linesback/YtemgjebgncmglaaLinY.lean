/- LinesBack, walked: lines that are visible, with their ends, are read as they were. -/
import Derived.Test.YtemgjebgncmglaaLinH
import Derived.Test.YtemgjebgncmglaaRfSeenT
namespace Go.Proofs.Ytemgjebgncmglaa
open Go.RowKit

/-- behind k bytes of a line and its end -/
def Ln.mid (t : List UInt8) (k : Nat) : Ln.St := if k ≤ t.length then ⟨t.take k, false, 0⟩ else if k = t.length + 1 then ⟨t, true, 0⟩ else Ln.start
theorem Ln.mid_short (t : List UInt8) (k : Nat) (h : t.length ≤ 200) : (Ln.mid t k).line.length ≤ 200 := by
  unfold Ln.mid
  split
  · simp; omega
  · split
    · exact h
    · simp [Ln.start]
theorem Ln.mid_last (t : List UInt8) : Ln.mid t (t.length + 2) = Ln.start := by
  unfold Ln.mid; rw [if_neg (by omega), if_neg (by omega)]
theorem Ln.mid_first (t : List UInt8) : Ln.mid t 0 = Ln.start := by
  unfold Ln.mid; rw [if_pos (Nat.zero_le _)]; simp [Ln.start]
/-- a byte of the line -/
theorem Ln.mid_byte (t : List UInt8) (k : Nat) (hk : k < t.length) (hv : Ch.isVisible t = true) (h : t.length ≤ 200) :
    Ln.fed (Ln.mid t k) t[k] = .tuple #[.string ⟨#[]⟩, .bool false, .int .i64 0] ∧ Ln.next (Ln.mid t k) t[k] = Ln.mid t (k + 1) ∧ Ln.begun (Ln.mid t (k + 1)) = true := by
  have hx : Ch.visible t[k].toNat = true := by
    unfold Ch.isVisible at hv
    exact List.all_eq_true.1 hv _ (List.getElem_mem hk)
  have h10 : t[k] ≠ 10 := fun e => by rw [e, Ln.not10] at hx; cases hx
  have h13 : t[k] ≠ 13 := fun e => by rw [e, Ln.not13] at hx; cases hx
  have em : Ln.mid t k = ⟨t.take k, false, 0⟩ := by unfold Ln.mid; rw [if_pos (by omega)]
  have em1 : Ln.mid t (k + 1) = ⟨t.take k ++ [t[k]], false, 0⟩ := by unfold Ln.mid; rw [if_pos (by omega), List.take_succ_eq_append_getElem hk]
  have hf : Ln.fault ⟨t.take k, false, 0⟩ t[k] = 0 := by
    unfold Ln.fault
    rw [if_pos (beq_eq_false_iff_ne.2 h10).symm, if_neg (by rintro (e | e) <;> contradiction), if_neg (by rw [hx]; simp), if_neg (by simp; omega)]
  have hn : Ln.next ⟨t.take k, false, 0⟩ t[k] = ⟨t.take k ++ [t[k]], false, 0⟩ := by
    unfold Ln.next; rw [if_neg (by simp), hf, if_neg (by simp), if_neg h10, if_neg h13]
  rw [em, em1]
  refine ⟨Ln.fed_of (t := []) (by unfold Ln.text; rw [if_neg (fun e => h10 e.2.2)]) (by unfold Ln.ends; rw [decide_eq_false_iff_not]; exact fun e => h10 e.2.2) hn rfl, hn, by unfold Ln.begun; simp; omega⟩
/-- its CR -/
theorem Ln.mid_cr (t : List UInt8) : Ln.fed (Ln.mid t t.length) 13 = .tuple #[.string ⟨#[]⟩, .bool false, .int .i64 0] ∧ Ln.next (Ln.mid t t.length) 13 = Ln.mid t (t.length + 1) ∧ Ln.begun (Ln.mid t (t.length + 1)) = true := by
  have em : Ln.mid t t.length = ⟨t, false, 0⟩ := by unfold Ln.mid; rw [if_pos (Nat.le_refl _)]; simp
  have em1 : Ln.mid t (t.length + 1) = ⟨t, true, 0⟩ := by unfold Ln.mid; rw [if_neg (by omega), if_pos rfl]
  rw [em, em1]
  exact ⟨rfl, rfl, rfl⟩
/-- its LF -/
theorem Ln.mid_lf (t : List UInt8) : Ln.fed (Ln.mid t (t.length + 1)) 10 = .tuple #[.string ⟨t.toArray⟩, .bool true, .int .i64 0] ∧ Ln.next (Ln.mid t (t.length + 1)) 10 = Ln.mid t (t.length + 2) ∧ Ln.begun (Ln.mid t (t.length + 2)) = false := by
  have em1 : Ln.mid t (t.length + 1) = ⟨t, true, 0⟩ := by unfold Ln.mid; rw [if_neg (by omega), if_pos rfl]
  rw [em1, Ln.mid_last]
  exact ⟨rfl, rfl, rfl⟩
/-- a line and its end, byte by byte -/
theorem Ln.mid_step (t : List UInt8) (k : Nat) (c : UInt8) (hk : (t ++ [13, 10])[k]? = some c) (hv : Ch.isVisible t = true) (h : t.length ≤ 200) :
    (k < t.length + 1 → Ln.fed (Ln.mid t k) c = .tuple #[.string ⟨#[]⟩, .bool false, .int .i64 0] ∧ Ln.next (Ln.mid t k) c = Ln.mid t (k + 1) ∧ Ln.begun (Ln.mid t (k + 1)) = true) ∧
    (k = t.length + 1 → Ln.fed (Ln.mid t k) c = .tuple #[.string ⟨t.toArray⟩, .bool true, .int .i64 0] ∧ Ln.next (Ln.mid t k) c = Ln.mid t (k + 1) ∧ Ln.begun (Ln.mid t (k + 1)) = false) := by
  constructor
  · intro hlt
    by_cases hk1 : k < t.length
    · rw [List.getElem?_append_left hk1, List.getElem?_eq_getElem hk1] at hk
      injection hk with hk; subst hk
      exact Ln.mid_byte t k hk1 hv h
    · obtain rfl : k = t.length := by omega
      rw [List.getElem?_append_right (Nat.le_refl _), Nat.sub_self] at hk
      injection hk with hk; subst hk
      exact Ln.mid_cr t
  · intro e
    subst e
    rw [List.getElem?_append_right (by omega), show t.length + 1 - t.length = 1 by omega] at hk
    injection hk with hk; subst hk
    exact Ln.mid_lf t

theorem linesBack_long (ab : Option Addr) (n cap : Nat) (w : World) (h : 100 < n) :
    Calls Try.prog 6 #[.slice ab n cap] w fun e w' => e = .returned (.bool true) ∧ Below w.heap.size w w' := by
  go_enter Try.func6, Try.ntmps6
  go_wp2_with fail
  refine (linesBegun_any _).mono ?_
  rintro e w1 ⟨rfl, hb1⟩
  go_wp2
  go_ret
  exact ⟨rfl, hb1⟩

/-- what the outer loop keeps -/
structure BkRel (w : World) (lo g : Nat) (wr : World) : Prop where
  line : LineAt wr (fun k => lo ≤ k) g Ln.start
  below : Below w.heap.size w wr
  lo_ : w.heap.size ≤ lo
  size : lo ≤ wr.heap.size
/-- what the inner loop keeps: the reader, and apart from it the bytes at block q -/
structure BkIn (w : World) (lo g q cap : Nat) (t : List UInt8) (k : Nat) (wr : World) : Prop where
  line : ∃ S, LineAt wr S g (Ln.mid t k) ∧ ¬ S q ∧ ∀ i, S i → lo ≤ i
  bytes : IsB wr (some ⟨q, 0, none⟩) cap (t ++ [13, 10])
  below : Below w.heap.size w wr
  lo_ : w.heap.size ≤ lo
  size : lo ≤ wr.heap.size
  q_ : q < wr.heap.size
theorem BkRel.enter {w : World} {lo g : Nat} {wr w1 : World} (h : BkRel w lo g wr) (t : List UInt8) (cap : Nat) (hb : Below wr.heap.size wr w1) (hz : w1.heap.size = wr.heap.size + 1) (hI : IsB w1 (some ⟨wr.heap.size, 0, none⟩) cap (t ++ [13, 10])) : BkIn w lo g wr.heap.size cap t 0 w1 := by
  refine ⟨⟨fun i => lo ≤ i ∧ i < wr.heap.size, ?_, fun e => by omega, fun i e => e.1⟩, hI, h.below.trans (hb.mono h.below.size), h.lo_, by have := h.size; omega, by omega⟩
  rw [Ln.mid_first]
  exact (h.line.mono (fun k hk e => ⟨e, hk⟩)).turns (Turns.of_below (S := fun _ => False) hb) (fun _ _ e => e)
theorem BkIn.leave {w : World} {lo g q cap : Nat} {t : List UInt8} {wr : World} (h : BkIn w lo g q cap t (t.length + 2) wr) : BkRel w lo g wr := by
  obtain ⟨S, hL, _, hS⟩ := h.line
  rw [Ln.mid_last] at hL
  exact ⟨hL.mono (fun k _ e => hS k e), h.below, h.lo_, h.size⟩
theorem BkIn.feed {w : World} {lo g q cap : Nat} {t : List UInt8} {k : Nat} {wr : World} (h : BkIn w lo g q cap t k wr) (c : UInt8) (v : Value) (hs : t.length ≤ 200) (hv : Ln.fed (Ln.mid t k) c = v) (hn : Ln.next (Ln.mid t k) c = Ln.mid t (k + 1)) :
    Calls Try.prog 17 #[.pointer (some ⟨g, 0, none⟩), .int .u8 c.toNat] wr fun e w' => e = .returned v ∧ BkIn w lo g q cap t (k + 1) w' := by
  obtain ⟨S, hL, hq, hS⟩ := h.line
  refine (feedLines_any wr S g _ c hL (Ln.mid_short t k hs)).mono ?_
  rintro e w' ⟨rfl, hL', hT⟩
  rw [hn] at hL'
  have hq' := h.q_
  refine ⟨by rw [hv], ⟨orNew S wr, hL', fun e => ?_, fun i e => ?_⟩, h.bytes.turns hT (fun a e => by injection e with e; rw [← e]; exact hq), h.below.trans ((hT.below hS h.size).mono h.lo_), h.lo_, Nat.le_trans h.size hT.size, Nat.lt_of_lt_of_le hq' hT.size⟩
  · rcases e with e | e
    · exact hq e
    · omega
  · rcases e with e | e
    · exact hS i e
    · exact Nat.le_trans h.size e
theorem BkIn.begun {w : World} {lo g q cap : Nat} {t : List UInt8} {k : Nat} {wr : World} (h : BkIn w lo g q cap t k wr) (b : Bool) (hb : Ln.begun (Ln.mid t k) = b) :
    Calls Try.prog 19 #[.pointer (some ⟨g, 0, none⟩)] wr fun e w' => e = .returned (.bool b) ∧ w' = wr := by
  obtain ⟨S, hL, _⟩ := h.line
  rw [← hb]
  exact begunLines_any wr S g _ hL

set_option maxRecDepth 100000 in
set_option maxHeartbeats 1600000 in
theorem linesBack_main (all : List ByteArray) (ab : Option Addr) (cap : Nat) (w : World) (hb : IsV w ab cap all.length (strV all)) (hmx : ∀ s ∈ all, s.size ≤ maxLen) (h2 : all.length ≤ 100) :
    Calls Try.prog 6 #[.slice ab all.length cap] w fun e w' => e = .returned (.bool true) ∧ Below w.heap.size w w' := by
  have t2 : decide ((all.length : Int) > 100) = false := by rw [decide_eq_false_iff_not]; omega
  have HB := Hid.mk' hb
  have hcap := hb.1
  clear hb
  have HM := Hid.mk' hmx
  clear hmx
  go_enter Try.func6, Try.ntmps6
  go_wp2_with fail
  refine (linesBegun_any _).mono ?_
  rintro e w1 ⟨rfl, hb1⟩
  have HN := Hid.mk' (newL_lo w1)
  have B1 := Hid.mk' hb1
  clear hb1
  go_wp2_with fail
  refine HN.out.mono ?_
  rintro e w2 ⟨g, rfl, hS, hb2⟩
  have HR : Hid (BkRel w w1.heap.size g w2) := ⟨hS, B1.out.trans (hb2.mono B1.out.size), B1.out.size, hb2.size⟩
  clear HN hS hb2 B1
  generalize w1.heap.size = lo at HR
  go_wp2
  go_loopw [4] (fun t wr => ∃ i : Nat, i ≤ all.length ∧ t = .int .i64 i ∧ BkRel w lo g wr) (fun t _ => all.length - (intOf t).toNat)
  case atStart => exact ⟨0, Nat.zero_le _, rfl, HR.out⟩
  case round =>
    clear HR
    obtain ⟨i, hib, rfl, hR⟩ := hrel
    have HR := Hid.mk' hR
    clear hR
    by_cases hlt : i < all.length
    · obtain ⟨bb, oo, rfl, hcs⟩ := HB.out.lit (by rw [strV_length]; omega)
      have hcell : ∀ W, Below w.heap.size w W → W.cell? ⟨bb, oo + i, none⟩ = some (.string all[i]) := fun W hW => by
        have := (HB.out.stay hW).cell (strV_at all i hlt)
        rwa [Addr.add_lit] at this
      have HCl := Hid.mk' hcell
      have hc0 := hcell wr HR.out.below
      clear hcs hcell
      have hlt' : (i : Int) < all.length := by omega
      have hmx := HM.out all[i] (List.getElem_mem hlt)
      generalize all[i] = s at *
      have HS := Hid.mk' (seenText_any s wr hmx)
      cases hv : Ch.isVisible s.data.toList
      · rw [hv] at HS
        go_wp2_with fail
        refine HS.out.mono ?_
        rintro e w3 ⟨rfl, hw⟩
        subst hw
        go_wp2
        go_ret
        exact ⟨rfl, HR.out.below⟩
      · rw [hv] at HS
        by_cases h200 : 200 < s.size
        · have t200 : decide ((s.size : Int) > 200) = true := by rw [decide_eq_true_eq]; omega
          go_wp2_with fail
          refine HS.out.mono ?_
          rintro e w3 ⟨rfl, hw⟩
          subst hw
          go_wp2
          go_ret
          exact ⟨rfl, HR.out.below⟩
        · have t200 : decide ((s.size : Int) > 200) = false := by rw [decide_eq_false_iff_not]; omega
          obtain ⟨cap3, w3, hq, hB3, hz3, hI3⟩ := bytes_of (P := Try.prog) wr (s ++ ⟨#[13, 10]⟩) 9 22 5 Try.underlying9 Try.underlying22 Try.underlying5
          have hsz : (s ++ ⟨#[13, 10]⟩ : ByteArray).size = s.size + 2 := by rw [ByteArray.size_append]; rfl
          rw [hsz] at hq
          rw [Ch.data_append] at hI3
          have HI3 := Hid.mk' (HR.out.enter s.data.toList cap3 hB3 hz3 hI3)
          generalize wr.heap.size = q at hq HI3
          have hn : s.data.toList.length = s.size := by rw [Array.length_toList]; rfl
          have HV := Hid.mk' hv
          clear hB3 hz3 hI3 hsz hv HR
          go_wp2_with fail
          refine HS.out.mono ?_
          rintro e w4 ⟨rfl, hw⟩
          subst hw
          clear HS
          go_wp2
          clear hq hc0
          go_loopw [6] (fun t wr => ∃ k : Nat, k ≤ s.size + 2 ∧ t = .int .i64 k ∧ BkIn w lo g q cap3 s.data.toList k wr) (fun t _ => s.size + 2 - (intOf t).toNat)
          case atStart => exact ⟨0, Nat.zero_le _, rfl, HI3.out⟩
          case round =>
            clear HI3
            obtain ⟨k, hk, rfl, hK⟩ := hrel
            have HK := Hid.mk' hK
            clear hK
            by_cases hkl : k < s.size + 2
            · have hlk : k < (s.data.toList ++ [13, 10]).length := by rw [List.length_append, hn]; simpa using hkl
              have hck := HK.out.bytes.cell k hlk
              rw [Addr.add_lit, Nat.zero_add] at hck
              obtain ⟨c, hc⟩ : ∃ c, (s.data.toList ++ [13, 10])[k] = c := ⟨_, rfl⟩
              have hst := Ln.mid_step s.data.toList k c (by rw [List.getElem?_eq_getElem hlk, hc]) HV.out (by omega)
              rw [hc] at hck
              rw [hn] at hst
              clear hc hlk
              have hkl' : (k : Int) < (s.size : Int) + 2 := by omega
              by_cases hlast : k = s.size + 1
              · obtain ⟨hf, hnx, hbg⟩ := hst.2 hlast
                rw [show (⟨s.data.toList.toArray⟩ : ByteArray) = s by cases s; simp] at hf
                have tl : ((k : Int) == (s.size : Int) + 2 - 1) = true := by rw [beq_iff_eq]; omega
                have HF := Hid.mk' (HK.out.feed c _ (by omega) hf hnx)
                have HBg := Hid.mk' hbg
                have HL := Hid.mk' hlast
                clear hst hf hnx hbg hlast
                go_wp2_with fail
                refine HF.out.mono ?_
                rintro e w5 ⟨rfl, hK5⟩
                have HK5 := Hid.mk' hK5
                have hc5 := HCl.out _ hK5.below
                clear hK5 HF hck
                go_wp2_with fail
                refine (HK5.out.begun _ HBg.out).mono ?_
                rintro e w6 ⟨rfl, hw⟩
                subst hw
                go_wp2
                go_roundw
                case rel => exact ⟨k + 1, by omega, by go_num, HK5.out⟩
                case measure => simp [intOf]; omega
              · obtain ⟨hf, hnx, hbg⟩ := hst.1 (by omega)
                have tl : ((k : Int) == (s.size : Int) + 2 - 1) = false := by rw [beq_eq_false_iff_ne]; omega
                have HF := Hid.mk' (HK.out.feed c _ (by omega) hf hnx)
                have HBg := Hid.mk' hbg
                clear hst hf hnx hbg
                go_wp2_with fail
                refine HF.out.mono ?_
                rintro e w5 ⟨rfl, hK5⟩
                have HK5 := Hid.mk' hK5
                clear hK5 HF hck
                go_wp2_with fail
                refine (HK5.out.begun _ HBg.out).mono ?_
                rintro e w6 ⟨rfl, hw⟩
                subst hw
                go_wp2
                go_roundw
                case rel => exact ⟨k + 1, by omega, by go_num, HK5.out⟩
                case measure => simp [intOf]; omega
            · obtain rfl : k = s.size + 2 := by omega
              go_wp2
              go_roundw
              case rel => exact ⟨i + 1, by omega, by go_num, BkIn.leave (t := s.data.toList) (by rw [hn]; exact HK.out)⟩
              case measure => simp [intOf]; omega
    · go_wp2
      go_ret
      exact ⟨rfl, HR.out.below⟩
end Go.Proofs.Ytemgjebgncmglaa
