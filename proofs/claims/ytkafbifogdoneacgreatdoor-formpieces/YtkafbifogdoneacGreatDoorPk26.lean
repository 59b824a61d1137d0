/- Small texts, one behind the other: FmK, FmLawQ. -/
import Derived.Test.YtkafbifogdoneacGreatDoorPk25
import Derived.Test.YtkafbifogdoneacGreatDoorPk18
import Derived.Lib.SlBytesConst
import Derived.Test.YtkafbifogdoneacGreatDoorLwPiec
import Derived.Test.YtkafbifogdoneacGreatDoorRfSameE
/- The laws' first look at package forms, walked: formBegun. -/
namespace Go.Proofs.YtkafbifogdoneacGreatDoor
open Go.RowKit

def fbegB : List UInt8 := [45, 45, 88, 13, 10, 67, 111, 110, 116, 101, 110, 116, 45, 68, 105, 115, 112, 111, 115, 105, 116, 105, 111, 110, 58, 32, 102, 111, 114, 109, 45, 100, 97, 116, 97, 59, 32, 110, 97, 109, 101, 61, 97, 13, 10, 13, 10, 98, 13, 10, 45, 45, 88, 45, 45]
theorem fbeg_close : Fm.close (Fm.fold (Fm.mark (⟨#[88]⟩ : ByteArray).data.toList) Fm.start fbegB) = 0 := by decide +kernel
theorem fbeg_gath : Fm.gath (joinD (Fm.outs (Fm.mark (⟨#[88]⟩ : ByteArray).data.toList) Fm.start fbegB)) = [⟨⟨#[97]⟩, ⟨#[]⟩, ⟨#[]⟩, [98]⟩] := by rfl
theorem fbeg_mark : Fm.isMark (⟨#[88]⟩ : ByteArray).data.toList = true := by decide +kernel
theorem fbeg_safe : Fm.safe (⟨#[47, 46, 46, 47, 46, 97, 34]⟩ : ByteArray).data.toList = [97, 95] := by decide +kernel
def fbegO : Obj := .cells #[.int .u8 45, .int .u8 45, .int .u8 88, .int .u8 13, .int .u8 10, .int .u8 67, .int .u8 111, .int .u8 110, .int .u8 116, .int .u8 101, .int .u8 110, .int .u8 116, .int .u8 45, .int .u8 68, .int .u8 105, .int .u8 115, .int .u8 112, .int .u8 111, .int .u8 115, .int .u8 105, .int .u8 116, .int .u8 105, .int .u8 111, .int .u8 110, .int .u8 58, .int .u8 32, .int .u8 102, .int .u8 111, .int .u8 114, .int .u8 109, .int .u8 45, .int .u8 100, .int .u8 97, .int .u8 116, .int .u8 97, .int .u8 59, .int .u8 32, .int .u8 110, .int .u8 97, .int .u8 109, .int .u8 101, .int .u8 61, .int .u8 97, .int .u8 13, .int .u8 10, .int .u8 13, .int .u8 10, .int .u8 98, .int .u8 13, .int .u8 10, .int .u8 45, .int .u8 45, .int .u8 88, .int .u8 45, .int .u8 45] 5 (55, 56)
theorem fbeg_row (W : World) : IsB (W.alloc fbegO) (some ⟨W.heap.size, 0, none⟩) 55 fbegB := by
  have h := IsV.made W #[.int .u8 45, .int .u8 45, .int .u8 88, .int .u8 13, .int .u8 10, .int .u8 67, .int .u8 111, .int .u8 110, .int .u8 116, .int .u8 101, .int .u8 110, .int .u8 116, .int .u8 45, .int .u8 68, .int .u8 105, .int .u8 115, .int .u8 112, .int .u8 111, .int .u8 115, .int .u8 105, .int .u8 116, .int .u8 105, .int .u8 111, .int .u8 110, .int .u8 58, .int .u8 32, .int .u8 102, .int .u8 111, .int .u8 114, .int .u8 109, .int .u8 45, .int .u8 100, .int .u8 97, .int .u8 116, .int .u8 97, .int .u8 59, .int .u8 32, .int .u8 110, .int .u8 97, .int .u8 109, .int .u8 101, .int .u8 61, .int .u8 97, .int .u8 13, .int .u8 10, .int .u8 13, .int .u8 10, .int .u8 98, .int .u8 13, .int .u8 10, .int .u8 45, .int .u8 45, .int .u8 88, .int .u8 45, .int .u8 45] 55 5 (55, 56)
  refine ⟨Nat.le_refl _, (fun e => by cases e), fun j hj => ⟨_, rfl, ?_⟩⟩
  refine h.cell ?_
  exact byteV_at fbegB j hj
/-- Read of them -/
theorem read_fbeg (w : World) (k : Nat) (hk : w.heap.size = k) :
    Calls Tryz.prog 30 #[.string ⟨#[88]⟩, .slice (some ⟨k, 0, none⟩) 55 55] (w.alloc (.cells #[.int .u8 45, .int .u8 45, .int .u8 88, .int .u8 13, .int .u8 10, .int .u8 67, .int .u8 111, .int .u8 110, .int .u8 116, .int .u8 101, .int .u8 110, .int .u8 116, .int .u8 45, .int .u8 68, .int .u8 105, .int .u8 115, .int .u8 112, .int .u8 111, .int .u8 115, .int .u8 105, .int .u8 116, .int .u8 105, .int .u8 111, .int .u8 110, .int .u8 58, .int .u8 32, .int .u8 102, .int .u8 111, .int .u8 114, .int .u8 109, .int .u8 45, .int .u8 100, .int .u8 97, .int .u8 116, .int .u8 97, .int .u8 59, .int .u8 32, .int .u8 110, .int .u8 97, .int .u8 109, .int .u8 101, .int .u8 61, .int .u8 97, .int .u8 13, .int .u8 10, .int .u8 13, .int .u8 10, .int .u8 98, .int .u8 13, .int .u8 10, .int .u8 45, .int .u8 45, .int .u8 88, .int .u8 45, .int .u8 45] 5 (55, 56))) fun e w' => ∃ b o cap bo bc, e = .returned (.tuple #[.slice (some ⟨b, o, none⟩) 1 cap, .int .i64 0]) ∧ (w'.cell? ⟨b, o, none⟩ = some (.string ⟨#[97]⟩) ∧ w'.cell? ⟨b, o + 3, none⟩ = some (.slice bo 1 bc) ∧ (convert 22 9 (.slice bo 1 bc)).run Tryz.prog w' = .ok (.string ⟨#[98]⟩) w') ∧ Below w.heap.size w w' := by
  subst hk
  have b1 : Below w.heap.size w (w.alloc fbegO) := (Below.refl _ _).alloc (Nat.le_refl _) _
  refine (read_any ⟨#[88]⟩ fbegB (some ⟨w.heap.size, 0, none⟩) 55 55 (w.alloc fbegO) (fbeg_row w) rfl (by decide)).mono ?_
  rintro e w' h
  cases h with
  | no c hc h he hb =>
    rcases h with ⟨h1, _⟩ | ⟨_, h1⟩
    · rw [fbeg_mark] at h1; cases h1
    · rw [fbeg_close] at h1; exact absurd h1.symm hc
  | yes hm h w1 ao cap n he hP hb =>
    rw [fbeg_gath] at hP
    obtain ⟨qs, hq, hO, hI⟩ := hP.own
    have hn : n = 1 := hP.len
    subst hn
    match qs, hq with
    | [q], hq =>
      obtain ⟨p, s⟩ := q
      have hp : p = ⟨⟨#[97]⟩, ⟨#[]⟩, ⟨#[]⟩, [98]⟩ := by simpa using hq
      subst hp
      have hB := hI _ (List.mem_singleton.2 rfl)
      have hB : IsB w1 s.bo s.bcap [98] := hB
      obtain ⟨b, rfl⟩ : ∃ b, ao = some ⟨b, 0, none⟩ := by
        rcases hO.2 with ⟨e, hx⟩ | ⟨g, cap', cur, e, _⟩
        · injection e with e e2 e3
          have := hO.isV.1
          omega
        · injection e with e; exact ⟨g, e⟩
      have c0 := (World.ownsRow.cellAt hO 0 (by decide)).trans (ptsV_at [(_, s)] 0 (Nat.lt_succ_self 0) 0 (by decide))
      have c3 := (World.ownsRow.cellAt hO 3 (by decide)).trans (ptsV_at [(_, s)] 0 (Nat.lt_succ_self 0) 3 (by decide))
      exact ⟨b, 0, cap, s.bo, s.bcap, he, ⟨c0, c3, (hB.stay hP.below).str (P := Tryz.prog) 22 9 5 Tryz.underlying22 Tryz.underlying5 Tryz.underlying9⟩, b1.trans (hb.mono b1.size)⟩

set_option maxRecDepth 100000 in
set_option maxHeartbeats 1600000 in
theorem formBegun_any (w : World) :
    Calls Tryz.prog 26 #[] w fun e w' => e = .returned (.bool true) ∧ Below w.heap.size w w' := by
  have kc := fun (w : World) (C : Array Value) (n c : Nat) => Lib.run_convert_bytes_const (P := Tryz.prog) w 22 5 C n c Tryz.underlying22 Tryz.underlying5
  have HF := Hid.mk' (read_fbeg w _ rfl)
  go_enter Tryz.func26, Tryz.ntmps26
  go_wp2_with fail
  refine HF.out.mono ?_
  rintro e w2 ⟨b, o, cap, bo, bc, rfl, ⟨c1, c2, c3⟩, hB⟩
  have HB := Hid.mk' hB
  have HS := Hid.mk' (safe_any ⟨#[47, 46, 46, 47, 46, 97, 34]⟩ w2 (by decide))
  rw [fbeg_safe] at HS
  clear hB HF
  go_wp2_with fail
  refine HS.out.mono ?_
  rintro e w3 ⟨rfl, hB3⟩
  have HB3 := Hid.mk' (then_ HB.out hB3)
  have HM := Hid.mk' (mark_any ⟨#[88]⟩ w3)
  rw [fbeg_mark] at HM
  clear hB3 HS c1 c2 c3 HB
  go_wp2_with fail
  refine HM.out.mono ?_
  rintro e w4 ⟨rfl, hB4⟩
  have HB4 := Hid.mk' (then_ HB3.out hB4)
  clear hB4 HB3 HM
  go_wp2
  go_ret
  exact ⟨rfl, HB4.out⟩
end Go.Proofs.YtkafbifogdoneacGreatDoor

/- FormPieces, walked: how bytes fall does not matter. -/
namespace Go.Proofs.YtkafbifogdoneacGreatDoor
open Go.RowKit

/-- a piece in whatever world that keeps the row and the bytes -/
theorem PcRel.at2 {w : World} {bo : Option Addr} {l : List UInt8} {b o cap : Nat} {ps : List Pc} {w4 wr : World} {P : Nat → Prop} (h : PcRel w bo l l.length (some ⟨b, o, none⟩) cap ps w4) (hT : Turns P w4 wr) (hP : ∀ k, P k → k < w.heap.size) (i : Nat) (hi : i < ps.length) : wr.cell? ⟨b, o + i, none⟩ = some (.slice ps[i].ao ps[i].l.length ps[i].cap) := by
  have hv := h.own.isV.turns hT (fun a e => by
    have hb := (h.own.block a e).1
    intro k
    have := hP _ k
    omega)
  have hc := hv.cell (j := i) (u := ps[i].v) (by unfold pcV; rw [List.getElem?_map, List.getElem?_eq_getElem hi]; rfl)
  rw [Addr.add_lit] at hc
  exact hc
theorem Fm.Fine.small {e : EvD} (h : Fm.Fine e) (hb : e.bytes.length ≤ 100000) : e.Small := by
  have h1 := h.method; have h2 := h.target; have h3 := h.pname; have h4 := h.pfile; have h5 := h.ptype
  exact ⟨by omega, by omega, (fun q hq => by rw [h.fields] at hq; cases hq), by rw [h.fields]; exact Nat.zero_le _, by omega, by omega, by omega, by omega, by rw [h.pbytes]; exact Nat.zero_le _⟩
/-- Join of what pieces brought -/
theorem join_pieces (W : World) (ao : Option Addr) (cap n : Nat) (es : List EvD) (hE : IsEs W ao cap es) (hn : es.length = n) (hl : n ≤ 100000) (hF : ∀ e ∈ es, Fm.Fine e) (hz : sumD es ≤ 100000) :
    Calls Tryz.prog 20 #[.slice ao n cap] W fun e w' => ∃ ao' cap', e = .returned (.slice ao' (joinD es).length cap') ∧ AllAt w' (fun k => W.heap.size ≤ k) 32 ao' cap' (joinD es) ∧ Below W.heap.size W w' := by
  refine (joinAny W ao cap n es hE hn (by omega) (fun e he => (hF e he).small (by have := sumD_mem es e he; omega)) (by omega)).mono ?_
  rintro e w' ⟨ao', cap', m, he, hm, hO, hB⟩
  subst hm
  exact ⟨ao', cap', he, hO.all, hB⟩

set_option maxRecDepth 100000 in
set_option maxHeartbeats 8000000 in
theorem formPieces_any (s : ByteArray) (w : World) (l : List UInt8) (bo co : Option Addr) (bcap n ccap nc : Nat) (cs : List Int) (hB : IsB w bo bcap l) (hn : l.length = n) (hC : IsV w co ccap nc (cs.map fun c => Value.int .i64 c)) (hnc : cs.length = nc) :
    Calls Tryz.prog 8 #[.string s, .slice bo n bcap, .slice co nc ccap] w fun e w' => e = .returned (.bool true) ∧ Below w.heap.size w w' := by
  have HB := Hid.mk' hB; have HC := Hid.mk' hC; have HNc := Hid.mk' hnc; have HN := Hid.mk' hn
  clear hB hC
  go_enter Tryz.func8, Tryz.ntmps8
  go_wp2_with fail
  refine (formBegun_any w).mono ?_
  rintro e w1 ⟨rfl, h1⟩
  have H1 := Hid.mk' h1
  clear h1 hnc hn
  by_cases hbig : 9000 < n
  · have t : decide ((n : Int) > 9000) = true := decide_eq_true (by omega)
    go_wp2
    go_ret
    exact ⟨rfl, H1.out⟩
  · have t : decide ((n : Int) > 9000) = false := decide_eq_false (by omega)
    by_cases hbg2 : 100 < nc
    · have t2 : decide ((nc : Int) > 100) = true := decide_eq_true (by omega)
      go_wp2
      go_ret
      exact ⟨rfl, H1.out⟩
    have t2 : decide ((nc : Int) > 100) = false := decide_eq_false (by omega)
    go_wp2_with fail
    refine (newForm_any s w1).mono ?_
    rintro e w2 hN1
    have HN2 := Hid.mk' (newForm_any s w2)
    cases hN1 with
    | no hm he hb2 =>
      subst he
      have HB2 := Hid.mk' (then_ H1.out hb2)
      have HM := Hid.mk' hm
      clear hb2 hm t t2
      go_wp2_with fail
      refine HN2.out.mono ?_
      rintro e w3 hN3
      cases hN3 with
      | yes h => rw [HM.out] at h; cases h
      | no h he hb3 =>
        subst he
        have HB3 := Hid.mk' (then_ HB2.out hb3)
        clear hb3 h HN2
        go_wp2
        go_ret
        exact ⟨rfl, HB3.out⟩
    | yes hm g he hR hb2 =>
      subst he
      have HM := Hid.mk' hm
      have HR := Hid.mk' hR; have HB2 := Hid.mk' hb2
      clear hR hb2 hm
      go_wp2_with fail
      refine HN2.out.mono ?_
      rintro e w3 hN3
      cases hN3 with
      | no h => rw [HM.out] at h; cases h
      | yes h g2 he hR2 hb3 =>
      subst he
      have HOk := Hid.mk' (start_ok HM.out)
      have HR2 := Hid.mk' hR2; have HB3 := Hid.mk' hb3
      clear hR2 hb3 h HN2 HM
      generalize Fm.mark s.data.toList = mm at *
      have HP := Hid.mk' (pieces_any w3 l bo co bcap n ccap nc cs (HB.out.stay (then_ H1.out (then_ HB2.out HB3.out))) HN.out (by omega) (HC.out.stay (then_ H1.out (then_ HB2.out HB3.out))) HNc.out (by omega))
      clear t t2
      go_wp2_with fail
      refine HP.out.mono ?_
      rintro e w4 ⟨ps, ao, cap, rfl, hP, hpl⟩
      have HPc := Hid.mk' hP; have HPl := Hid.mk' hpl
      have hp1 : ps.length ≤ 101 := by omega
      have hp0 : 0 < ps.length := by omega
      clear hP hpl HP
      have s1 := H1.out.size; have s2 := HB2.out.size; have s3 := HB3.out.size; have s4 := HPc.out.below.size
      have hRp := ((HR.out.mono (S' := fun k => w1.heap.size ≤ k ∧ k < w2.heap.size) (fun k hk e => ⟨e, hk⟩)).stay HB3.out).stay HPc.out.below
      have hRq := (HR2.out.mono (S' := fun k => w2.heap.size ≤ k ∧ k < w3.heap.size) (fun k hk e => ⟨e, hk⟩)).stay HPc.out.below
      have HG := Hid.mk' (FaAt.start hRp)
      have HRq := Hid.mk' hRq
      have HB4 := Hid.mk' (then_ H1.out (then_ HB2.out (then_ HB3.out HPc.out.below)))
      have Hs : Hid (w.heap.size ≤ w1.heap.size ∧ w1.heap.size ≤ w2.heap.size ∧ w2.heap.size ≤ w3.heap.size ∧ w3.heap.size ≤ w4.heap.size) := ⟨s1, s2, s3, s4⟩
      have HFl : Hid ((ps.map Pc.l).flatten = l) := by unfold Hid; rw [HPc.out.flat, List.take_length]
      have hll : l.length ≤ 9000 := by have := HN.out; omega
      have HLl := Hid.mk' hll
      clear hRp hRq s1 s2 s3 s4 HR HR2 hll
      obtain ⟨rb, ro, rfl, _⟩ := HPc.out.own.isV.lit (by rw [pcV_length]; exact hp0)
      have hcap := HPc.out.own.isV.1
      have HBig : Hid (∀ k, (Fm.fed mm Fm.start ((ps.map Pc.l).take k)).length ≤ 40000) := fun k => by
        have h1 := (Fm.fed_all (by have := HOk.out.long; omega) ((ps.map Pc.l).take k) HOk.out.good).2.1
        have h2 : ((ps.map Pc.l).take k).flatten.length ≤ l.length := by
          have := congrArg List.length (HFl.out)
          rw [← this]
          conv => rhs; rw [← List.take_append_drop k (ps.map Pc.l), List.flatten_append, List.length_append]
          omega
        have := HLl.out
        omega
      obtain ⟨i0, hi0, hz0, hz1, hz2⟩ := info_parts info_ev
      have Hi := Hid.mk' hi0; have Hz0 := Hid.mk' hz0; have Hz1 := Hid.mk' hz1; have Hz2 := Hid.mk' hz2
      clear hi0 hz0 hz1 hz2
      go_wp2
      go_loopw [11, 13] (fun va vi wr => ∃ (i m : Nat) (ao' : Option Addr) (cap' : Nat), i ≤ ps.length ∧ vi = .int .i64 i ∧ va = .slice ao' m cap' ∧ m = (Fm.fed mm Fm.start ((ps.map Pc.l).take i)).length ∧ FaAt w4 (fun k => w1.heap.size ≤ k ∧ k < w2.heap.size) g mm (Fm.fold mm Fm.start ((ps.map Pc.l).take i).flatten) (Fm.fed mm Fm.start ((ps.map Pc.l).take i)) ao' cap' wr) (fun _ vi _ => ps.length - (intOf vi).toNat)
      case atStart => exact ⟨0, 0, none, 0, Nat.zero_le _, rfl, rfl, rfl, HG.out⟩
      case round =>
        clear HG
        obtain ⟨i, m, ao', cap', hi, rfl, rfl, hm, hG⟩ := hrel
        have HG := Hid.mk' hG; have HM := Hid.mk' hm
        have hm4 : m ≤ 40000 := by have := HBig.out i; omega
        clear hG hm
        by_cases hlt : i < ps.length
        · have hlt' : (i : Int) < ps.length := by omega
          have ci := HPc.out.at2 HG.out.turns (fun k e => by have := Hs.out; omega) i hlt
          have HPi := Hid.mk' (HPc.out.all ps[i] (List.getElem_mem hlt))
          have HT : Hid ((ps.map Pc.l).take (i + 1) = (ps.map Pc.l).take i ++ [ps[i].l]) := by
            unfold Hid
            rw [List.take_succ_eq_append_getElem (by rw [List.length_map]; exact hlt), List.getElem_map]
          have hpl : ps[i].l.length ≤ 9000 := by
            have h2 := congrArg List.length HFl.out
            have h3 : ps[i].l.length ≤ (ps.map Pc.l).flatten.length := by
              conv => rhs; rw [← List.take_append_drop (i + 1) (ps.map Pc.l), HT.out, List.flatten_append, List.flatten_append, List.length_append, List.length_append]
              simp; omega
            have := HLl.out
            omega
          have HF := Hid.mk' (HG.out.feed (HOk.out.fold _) ps[i].l ps[i].ao ps[i].cap ps[i].l.length (HPi.out.is.stay HPc.out.below) (fun hne a e k => by
            obtain ⟨a0, e0, hb⟩ := HPi.out.blk hne a e
            have hlb : 0 < l.length := by
              rcases Nat.eq_zero_or_pos l.length with z | z
              · have h2 := congrArg List.length HFl.out
                have h3 : ps[i].l.length ≤ (ps.map Pc.l).flatten.length := by
                  conv => rhs; rw [← List.take_append_drop (i + 1) (ps.map Pc.l), HT.out, List.flatten_append, List.flatten_append, List.length_append, List.length_append]
                  simp; omega
                have h4 : 0 < ps[i].l.length := List.length_pos_iff.2 hne
                omega
              · exact z
            subst e0
            have := World.block_lt_of_cell? w _ (HB.out.cell 0 hlb)
            rw [add_block] at this
            have := Hs.out
            omega) rfl (by omega))
          have HBg := Hid.mk' (HBig.out (i + 1))
          rw [HT.out, Fm.fed_snoc, List.length_append] at HBg
          have hbg := HBg.out
          have HT2 : Hid (((ps.map Pc.l).take (i + 1)).flatten = ((ps.map Pc.l).take i).flatten ++ ps[i].l) := by unfold Hid; rw [HT.out, List.flatten_append]; simp
          have HT3 : Hid (Fm.fed mm Fm.start ((ps.map Pc.l).take (i + 1)) = Fm.fed mm Fm.start ((ps.map Pc.l).take i) ++ joinD (Fm.outs mm (Fm.fold mm Fm.start ((ps.map Pc.l).take i).flatten) ps[i].l)) := by unfold Hid; rw [HT.out, Fm.fed_snoc]
          clear HPi
          generalize ps[i] = p at *
          generalize hfs : joinD (Fm.outs mm (Fm.fold mm Fm.start ((ps.map Pc.l).take i).flatten) p.l) = fs at *
          generalize hfn : fs.length = fn at *
          have HFn := Hid.mk' hfn; have HFs := Hid.mk' hfs
          clear hfn hfs HG
          have hmf : m + fn ≤ 40000 := by have := HM.out; omega
          clear hbg HBg
          go_wp2_with fail
          refine HF.out.mono ?_
          rintro e w5 ⟨fo, fc, rfl, hFd⟩
          clear HF
          have HFd := Hid.mk' hFd
          clear hFd ci
          obtain ⟨xs, ys, hO1, hV2, hy, hy1, hMo⟩ := HFd.out.more
          rw [← HM.out] at hO1 hMo
          rw [HFn.out] at hV2 hy hMo
          have HO1 := Hid.mk' hO1; have HV2 := Hid.mk' hV2; have HY := Hid.mk' hy; have HY1 := Hid.mk' hy1; have HMo := Hid.mk' hMo
          clear hO1 hV2 hy hy1 hMo HFd
          go_wp2_with (at_builtin; go_loud (refine wpList_append_v rfl (.tmp 52) (.tmp 58) 26 rfl 0 32 i0 (.agg #[.int .i64 0, .string ⟨#[]⟩, .string ⟨#[]⟩, .int .i64 0, .slice none 0 0, .int .i64 0, .slice none 0 0, .string ⟨#[]⟩, .string ⟨#[]⟩, .string ⟨#[]⟩, .slice none 0 0, .int .i64 0]) 12 184 Tryz.underlying26 Hi.out Hz0.out Hz1.out Hz2.out rfl (by decide) rfl HO1.out rfl HV2.out HY.out HY1.out (by omega) (by omega) (Nat.zero_le _) ?_; intro ao3 cap3 w6 hO3 hG3 hat3; have HGn := Hid.mk' (HMo.out ao3 cap3 w6 hO3 hG3 hat3); clear hO3 hG3 hat3))
          go_roundw
          case rel => exact ⟨i + 1, m + fn, ao3, cap3, by omega, by go_num, by go_num, by rw [HT3.out, List.length_append, HFn.out, ← HM.out], by rw [HT2.out, HT3.out, Fm.fold_append]; exact HGn.out⟩
          case measure => simp [intOf]; omega
        · obtain rfl : i = ps.length := by omega
          have htk : (ps.map Pc.l).take ps.length = ps.map Pc.l := by rw [List.take_of_length_le]; rw [List.length_map]; omega
          rw [htk, HFl.out] at HG
          rw [htk] at HM
          have hfa := Fm.fed_all (by have := HOk.out.long; omega) (ps.map Pc.l) HOk.out.good
          have hje := Fm.join_fed mm (ps.map Pc.l) Fm.start
          rw [HFl.out] at hfa hje
          have hll := HLl.out
          have hh0 : Fm.start.held = 2 := rfl
          obtain ⟨S, So, hRp, hA, hd, hS, _⟩ := HG.out.two
          have HJn := Hid.mk' (join_pieces wr ao' cap' m (Fm.fed mm Fm.start (ps.map Pc.l)) hA.isEs HM.out.symm (by omega) hfa.2.2 (by omega))
          rw [hje] at HJn
          have HRp : Hid (FmAt wr (fun k => S k ∧ k < wr.heap.size) g mm (Fm.fold mm Fm.start l)) := hRp.mono (fun k hk e => ⟨e, hk⟩)
          have HS := Hid.mk' hS
          have HRw : Hid (FmAt wr (fun k => w2.heap.size ≤ k ∧ k < w3.heap.size) g2 mm Fm.start) := HRq.out.turns HG.out.turns (fun k a b => by omega)
          have hBw : Below w.heap.size w wr := HB4.out.trans (HG.out.turns.below (fun k e => by have := Hs.out; omega) (by have := Hs.out; omega))
          have HBw := Hid.mk' hBw
          have Hw4 : Hid (w4.heap.size ≤ wr.heap.size) := HG.out.turns.size
          have hEl : (joinD (Fm.outs mm Fm.start l)).length ≤ 40000 := by
            have h1 := Fm.outs_few (by have := HOk.out.long; omega) l HOk.out.good
            have h2 := joinD_length (Fm.outs mm Fm.start l)
            omega
          have HFin : Hid (∀ e ∈ joinD (Fm.outs mm Fm.start l), e.fields.length ≤ 4398046511104) := fun e he => by
            rw [(Fm.fine_join (Fm.fine_outs (by have := HOk.out.long; omega) l HOk.out.good) e he).fields]
            exact Nat.zero_le _
          have HLb : Hid (l ≠ [] → ∀ a, bo = some a → ¬ (w2.heap.size ≤ a.block ∧ a.block < w3.heap.size)) := fun hne a e k => by
            subst e
            have hp : 0 < l.length := List.length_pos_iff.2 hne
            have := World.block_lt_of_cell? w _ (HB.out.cell 0 hp)
            rw [add_block] at this
            have := Hs.out
            omega
          clear hfa hje hll hh0 hRp hA hd hS HG hBw HBig HPc HRq
          go_wp2_with fail
          refine HJn.out.mono ?_
          rintro e w5 ⟨ja, jc, rfl, hJa, hb5⟩
          have HJa := Hid.mk' hJa; have HB5 := Hid.mk' hb5
          have HF2 := Hid.mk' (feedForm_any w5 (fun k => w2.heap.size ≤ k ∧ k < w3.heap.size) g2 mm Fm.start l bo bcap n (HRw.out.stay hb5) HOk.out (HB.out.stay (then_ HBw.out hb5)) HLb.out HN.out (by omega))
          clear hJa hb5 HJn HRw HLb
          go_wp2_with fail
          refine HF2.out.mono ?_
          rintro e w6 ⟨qa, qc, qn, S', So', he, hqn, hRq', hO, _, _, _, hT6⟩
          subst he; subst hqn
          have hsz := Hs.out; have hw4 := Hw4.out; have h5 := HB5.out.size
          have hJ6 := (HJa.out.turns hT6 (fun k a b => by omega)).isEs
          have hQ6 := hO.isEs
          have hP6 := (HRp.out.stay HB5.out).turns hT6 (fun k a b => by
            rcases HS.out k a.1 with c | c
            · omega
            · omega)
          have hB6 : Below w.heap.size w w6 := (then_ HBw.out HB5.out).trans (hT6.below (fun k e => by omega) (by omega))
          have HSm := Hid.mk' (sameEvents_yes (joinD (Fm.outs mm Fm.start l)) ja qa jc qc w6 hJ6 hQ6 (by omega) HFin.out)
          have HP6 := Hid.mk' hP6; have HQ6 := Hid.mk' hRq'; have HB6 := Hid.mk' hB6
          clear hJ6 hQ6 hP6 hRq' hO hT6 hB6 hsz hw4 h5 HF2 HJa HFin
          generalize (joinD (Fm.outs mm Fm.start l)).length = en at *
          go_wp2_with fail
          refine HSm.out.mono ?_
          rintro e w7 ⟨rfl, hb7⟩
          have HP7 := Hid.mk' (HP6.out.stay hb7); have HQ7 := Hid.mk' (HQ6.out.stay hb7); have HB7 := Hid.mk' (then_ HB6.out hb7)
          clear hb7 HP6 HQ6 HB6 HSm
          have HU1 := Hid.mk' (close_any w7 _ g mm _ HP7.out); have HU2 := Hid.mk' (close_any w7 _ g2 mm _ HQ7.out)
          generalize Fm.close (Fm.fold mm Fm.start l) = cc at HU1 HU2
          clear HP7 HQ7
          go_wp2_with fail
          refine HU1.out.mono ?_
          rintro e w8 ⟨rfl, hw⟩
          subst hw
          have tc : ((cc : Int) == (cc : Int)) = true := by rw [beq_iff_eq]
          go_wp2_with fail
          refine HU2.out.mono ?_
          rintro e w9 ⟨rfl, hw⟩
          subst hw
          go_wp2
          go_ret
          exact ⟨rfl, HB7.out⟩
end Go.Proofs.YtkafbifogdoneacGreatDoor
