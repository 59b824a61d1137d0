/- Bytes cut at some places, as the laws cut them, walked: pieces. -/
import Derived.Test.YtjpenioloeplgadGreatDoorBase
import Derived.Test.YtjpenioloeplgadGreatDoorPk4
import Derived.Test.YtjpenioloeplgadGreatDoorPk10
import Derived.Test.YtjpenioloeplgadGreatDoorProg
import Derived.Deep.DeepCutAuto
namespace Go.Proofs.YtjpenioloeplgadGreatDoor
open Go.RowKit

/-- a piece: where it lies, and its bytes -/
structure Pc where
  ao : Option Addr
  cap : Nat
  l : List UInt8
def Pc.v (p : Pc) : Value := .slice p.ao p.l.length p.cap
def pcV (ps : List Pc) : List Value := ps.map Pc.v
/-- a piece of bytes that lie at bo -/
structure PcIn (w : World) (bo : Option Addr) (p : Pc) : Prop where
  is : IsB w p.ao p.cap p.l
  blk : p.l ≠ [] → ∀ a, p.ao = some a → ∃ a0, bo = some a0 ∧ a.block = a0.block
/-- what the loop keeps -/
structure PcRel (w : World) (bo : Option Addr) (l : List UInt8) (fr : Nat) (ao : Option Addr) (cap : Nat) (ps : List Pc) (wr : World) : Prop where
  own : OwnV wr w.heap.size 25 1 ao cap ps.length (pcV ps)
  all : ∀ p ∈ ps, PcIn w bo p
  flat : (ps.map Pc.l).flatten = l.take fr
  below : Below w.heap.size w wr
theorem pcV_length (ps : List Pc) : (pcV ps).length = ps.length := by simp [pcV]
theorem pcV_one (ps : List Pc) : ∀ u ∈ pcV ps, u.oneCell' = true := by
  intro u hu
  obtain ⟨p, _, rfl⟩ := List.mem_map.1 hu
  rfl
theorem pc_place (c : Int) (n fr : Nat) (h : fr ≤ n) : 0 ≤ (IntKind.u64.wrap c).tmod ((n : Int) - fr + 1) ∧ (IntKind.u64.wrap c).tmod ((n : Int) - fr + 1) ≤ (n : Int) - fr := by
  have h0 : 0 ≤ IntKind.u64.wrap c := by rw [IntKind.wrap_u64]; omega
  have h1 := Int.tmod_nonneg ((n : Int) - fr + 1) h0
  have h2 := Int.tmod_lt_of_pos (IntKind.u64.wrap c) (b := (n : Int) - fr + 1) (by omega)
  exact ⟨h1, by omega⟩
theorem info_bs : (Tryz.prog.info? 25).map (fun i => (i.zero, i.size, i.bytes)) = some (some (.slice none 0 0), 1, 24) := by kernel_rfl
/-- one piece more -/
theorem pc_cut {w : World} {bo ao' : Option Addr} {bcap : Nat} {l : List UInt8} (h : IsB w bo bcap l) (fr k : Nat) (h1 : fr ≤ k) (h2 : k ≤ l.length) (e : bcap ≠ fr → ao' = bo.map (·.add fr)) : PcIn w bo ⟨ao', bcap - fr, (l.drop fr).take (k - fr)⟩ := by
  refine ⟨h.cut fr k h1 h2 e, fun hne a ha => ?_⟩
  have hc : l.length ≤ bcap := h.1
  have hlt : fr < k := by
    rcases Nat.lt_or_ge fr k with g | g
    · exact g
    · exact absurd (by rw [show k - fr = 0 by omega, List.take_zero]) hne
  have ha' : ao' = some a := ha
  rw [e (by omega)] at ha'
  cases bo with
  | none => simp at ha'
  | some a0 => refine ⟨a0, rfl, ?_⟩; simp at ha'; rw [← ha', add_block]
theorem PcRel.snoc {w : World} {bo : Option Addr} {l : List UInt8} {fr k : Nat} {ao ao2 : Option Addr} {cap cap2 : Nat} {ps : List Pc} {p : Pc} {wr w' : World} (h : PcRel w bo l fr ao cap ps wr) (hp : PcIn w bo p) (hpl : p.l = (l.drop fr).take (k - fr)) (h1 : fr ≤ k) (hO : OwnV w' w.heap.size 25 1 ao2 cap2 (ps.length + 1) (pcV ps ++ [p.v])) (hB : Below w.heap.size w w') : PcRel w bo l k ao2 cap2 (ps ++ [p]) w' := by
  refine ⟨?_, fun q hq => ?_, ?_, hB⟩
  · rw [List.length_append]
    have : pcV (ps ++ [p]) = pcV ps ++ [p.v] := by simp [pcV]
    rw [this]; exact hO
  · rcases List.mem_append.1 hq with hq | hq
    · exact h.all q hq
    · rw [List.mem_singleton.1 hq]; exact hp
  · rw [List.map_append, List.flatten_append, h.flat]
    show l.take fr ++ [p.l].flatten = _
    rw [hpl]
    have : [(l.drop fr).take (k - fr)].flatten = (l.drop fr).take (k - fr) := by simp
    rw [this]
    have e : k = fr + (k - fr) := by omega
    conv => rhs; rw [e, List.take_add]
theorem PcRel.push {w : World} {bo : Option Addr} {bcap : Nat} {l : List UInt8} {fr k : Nat} {ao ao2 : Option Addr} {cap cap2 : Nat} {ps : List Pc} {wr w' : World} {ob : Obj} (h : PcRel w bo l fr ao cap ps wr) (hI : IsB w bo bcap l) (ao' : Option Addr) (m c : Nat) (hm : m = k - fr) (hc : c = bcap - fr) (e : bcap ≠ fr → ao' = bo.map (·.add fr)) (h1 : fr ≤ k) (h2 : k ≤ l.length) (hO : OwnV w' w.heap.size 25 1 ao2 cap2 (ps.length + 1) (pcV ps ++ [.slice ao' m c])) (hG : (wr.alloc ob).grownBy w' (blockOf ao)) : ∃ p, PcRel w bo l k ao2 cap2 (ps ++ [p]) w' := by
  subst hm; subst hc
  have hs := h.below.size
  refine ⟨⟨ao', bcap - fr, (l.drop fr).take (k - fr)⟩, h.snoc (pc_cut hI fr k h1 h2 e) rfl h1 ?_ ?_⟩
  · have hx : (Value.slice ao' (k - fr) (bcap - fr)) = Pc.v ⟨ao', bcap - fr, (l.drop fr).take (k - fr)⟩ := by
      show _ = Value.slice _ ((l.drop fr).take (k - fr)).length _
      rw [List.length_take, List.length_drop]; congr 1; omega
    rw [← hx]; exact hO
  · exact (h.below.alloc hs _).grown hG (by simp; omega) (fun q e => by
      cases ao with
      | none => simp [blockOf] at e
      | some y => simp only [blockOf, Option.some.injEq] at e; have := (h.own.block y rfl).1; omega)

set_option maxRecDepth 100000 in
set_option maxHeartbeats 2000000 in
theorem pieces_any (w : World) (l : List UInt8) (bo co : Option Addr) (bcap n ccap nc : Nat) (cs : List Int) (hB : IsB w bo bcap l) (hn : l.length = n) (hl : n ≤ 100000) (hC : IsV w co ccap nc (cs.map fun c => Value.int .i64 c)) (hnc : cs.length = nc) (hc : nc ≤ 1000) :
    Calls Tryz.prog 20 #[.slice bo n bcap, .slice co nc ccap] w fun e w' => ∃ (ps : List Pc) (ao : Option Addr) (cap : Nat), e = .returned (.slice ao ps.length cap) ∧ PcRel w bo l l.length ao cap ps w' ∧ ps.length = nc + 1 := by
  subst hn; subst hnc
  have HB := Hid.mk' hB; have HC := Hid.mk' hC
  clear hB hC
  obtain ⟨i0, hi0, hz0, hz1, hz2⟩ := info_parts info_bs
  have Hi := Hid.mk' hi0; have Hz0 := Hid.mk' hz0; have Hz1 := Hid.mk' hz1; have Hz2 := Hid.mk' hz2
  clear hi0 hz0 hz1 hz2
  go_enter Tryz.func20, Tryz.ntmps20
  go_wp2
  go_loopw [5, 6, 7] (fun vo vf vi wr => ∃ (i fr : Nat) (ps : List Pc) (ao : Option Addr) (cap : Nat), i ≤ cs.length ∧ fr ≤ l.length ∧ vi = .int .i64 i ∧ vf = .int .i64 fr ∧ vo = .slice ao ps.length cap ∧ ps.length = i ∧ PcRel w bo l fr ao cap ps wr) (fun _ _ vi _ => cs.length - (intOf vi).toNat)
  case atStart => exact ⟨0, 0, [], none, 0, Nat.zero_le _, Nat.zero_le _, rfl, rfl, rfl, rfl, ⟨OwnV.nil _ _ _ _, (fun p hp => by cases hp), rfl, Below.refl _ _⟩⟩
  case round =>
    obtain ⟨i, fr, ps, ao, cap, hi, hfr, rfl, rfl, rfl, hps, hP⟩ := hrel
    have HP := Hid.mk' hP
    have HPs := Hid.mk' hps
    have hpl : ps.length ≤ 1000 := by omega
    clear hP hps
    by_cases hlt : i < cs.length
    · obtain ⟨bb, oo, rfl, hcc⟩ := HC.out.lit (by rw [List.length_map]; omega)
      have hlt' : (i : Int) < cs.length := by omega
      have hcv := HC.out.1
      have ci : wr.cell? ⟨bb, oo + i, none⟩ = some (.int .i64 cs[i]) := by
        have := hcc i (.int .i64 cs[i]) (by rw [List.getElem?_map, List.getElem?_eq_getElem hlt]; rfl)
        exact (HP.out.below.cell (World.block_lt_of_cell? w _ this)).trans this
      clear hcc
      generalize cs[i] = c at *
      go_upto_region 6 with fail
      go_cut [8] from 9 to 37 (fun vk wd => ∃ k : Nat, fr ≤ k ∧ k ≤ l.length ∧ vk = .int .i64 k ∧ wd = wr)
      case first =>
        go_wp2
        go_meet
        obtain ⟨h1, h2⟩ := pc_place c l.length fr hfr
        exact ⟨fr + ((IntKind.u64.wrap c).tmod ((l.length : Int) - fr + 1)).toNat, by omega, by omega, by rw [wrap64_id (x := (IntKind.u64.wrap c).tmod ((l.length : Int) - fr + 1)) (by omega) (by omega), wrap64_id (by omega) (by omega)]; congr 1; omega, rfl⟩
      case rest =>
        obtain ⟨k, hk1, hk2, rfl, hw⟩ := hcut
        subst hw
        have hcap := HB.out.1
        have k1 : (fr : Int) ≤ k := by omega
        have k2 : (k : Int) ≤ bcap := by omega
        clear ci
        cases bo with
        | none =>
          obtain ⟨hl0, hc0⟩ := HB.out.none_nil
          have hl1 : l.length = 0 := by rw [hl0]; rfl
          have hkf : k = fr := by omega
          have hcf : bcap = fr := by omega
          clear hl0 hc0 hl1
          subst hkf; subst hcf
          go_wp2_with (at_builtin; refine wpList_append_v rfl (.tmp 30) (.tmp 35) 47 rfl w.heap.size 25 i0 (.slice none 0 0) 1 24 Tryz.underlying47 Hi.out Hz0.out Hz1.out Hz2.out rfl (by decide) rfl (HP.out.own.alloc _) rfl (IsV.made _ _ 1 _ _) rfl (fun u hu => by simp at hu; subst hu; rfl) (by omega) (by omega) (by have := HP.out.below.size; simp; omega) ?_; intro ao3 cap3 w3 hO3 hG3 _)
          obtain ⟨p, hp⟩ := HP.out.push HB.out (k := bcap) _ _ _ (by omega) (by omega) (fun e => absurd rfl e) (by omega) hk2 hO3 hG3
          go_roundw
          case rel => exact ⟨i + 1, bcap, ps ++ [p], ao3, cap3, by omega, hk2, by go_num, rfl, by rw [List.length_append]; rfl, by rw [List.length_append, HPs.out]; rfl, hp⟩
          case measure => simp [intOf]; omega
        | some a =>
          by_cases hcf : bcap = fr
          · have hkf : k = fr := by omega
            subst hkf; subst hcf
            go_wp2_with (at_builtin; refine wpList_append_v rfl (.tmp 30) (.tmp 35) 47 rfl w.heap.size 25 i0 (.slice none 0 0) 1 24 Tryz.underlying47 Hi.out Hz0.out Hz1.out Hz2.out rfl (by decide) rfl (HP.out.own.alloc _) rfl (IsV.made _ _ 1 _ _) rfl (fun u hu => by simp at hu; subst hu; rfl) (by omega) (by omega) (by have := HP.out.below.size; simp; omega) ?_; intro ao3 cap3 w3 hO3 hG3 _)
            obtain ⟨p, hp⟩ := HP.out.push HB.out (k := bcap) _ _ _ (by omega) (by omega) (fun e => absurd rfl e) (by omega) hk2 hO3 hG3
            go_roundw
            case rel => exact ⟨i + 1, bcap, ps ++ [p], ao3, cap3, by omega, hk2, by go_num, rfl, by rw [List.length_append]; rfl, by rw [List.length_append, HPs.out]; rfl, hp⟩
            case measure => simp [intOf]; omega
          · go_wp2_with (at_builtin; refine wpList_append_v rfl (.tmp 30) (.tmp 35) 47 rfl w.heap.size 25 i0 (.slice none 0 0) 1 24 Tryz.underlying47 Hi.out Hz0.out Hz1.out Hz2.out rfl (by decide) rfl (HP.out.own.alloc _) rfl (IsV.made _ _ 1 _ _) rfl (fun u hu => by simp at hu; subst hu; rfl) (by omega) (by omega) (by have := HP.out.below.size; simp; omega) ?_; intro ao3 cap3 w3 hO3 hG3 _)
            obtain ⟨p, hp⟩ := HP.out.push HB.out (k := k) _ _ _ (by omega) (by omega) (fun _ => rfl) (by omega) hk2 hO3 hG3
            go_roundw
            case rel => exact ⟨i + 1, k, ps ++ [p], ao3, cap3, by omega, hk2, by go_num, rfl, by rw [List.length_append]; rfl, by rw [List.length_append, HPs.out]; rfl, hp⟩
            case measure => simp [intOf]; omega
    · obtain rfl : i = cs.length := by omega
      have hcap := HB.out.1
      have k1 : (fr : Int) ≤ l.length := by omega
      cases bo with
      | none =>
        obtain ⟨hl0, hc0⟩ := HB.out.none_nil
        have hl1 : l.length = 0 := by rw [hl0]; rfl
        have hcf : bcap = fr := by omega
        have hlf : l.length = fr := by omega
        clear hl0 hc0 hl1
        subst hcf
        go_wp2_with (at_builtin; refine wpList_append_v rfl (.tmp 38) (.tmp 42) 47 rfl w.heap.size 25 i0 (.slice none 0 0) 1 24 Tryz.underlying47 Hi.out Hz0.out Hz1.out Hz2.out rfl (by decide) rfl (HP.out.own.alloc _) rfl (IsV.made _ _ 1 _ _) rfl (fun u hu => by simp at hu; subst hu; rfl) (by omega) (by omega) (by have := HP.out.below.size; simp; omega) ?_; intro ao3 cap3 w3 hO3 hG3 _)
        obtain ⟨p, hp⟩ := HP.out.push HB.out (k := l.length) _ _ _ (by omega) (by omega) (fun e => absurd rfl e) (by omega) (Nat.le_refl _) hO3 hG3
        go_ret
        exact ⟨ps ++ [p], ao3, cap3, by rw [List.length_append]; rfl, (by rw [hlf] at hp; exact hp), by rw [List.length_append, HPs.out]; rfl⟩
      | some a =>
        by_cases hcf : bcap = fr
        · have hlf : l.length = fr := by omega
          subst hcf
          go_wp2_with (at_builtin; refine wpList_append_v rfl (.tmp 38) (.tmp 42) 47 rfl w.heap.size 25 i0 (.slice none 0 0) 1 24 Tryz.underlying47 Hi.out Hz0.out Hz1.out Hz2.out rfl (by decide) rfl (HP.out.own.alloc _) rfl (IsV.made _ _ 1 _ _) rfl (fun u hu => by simp at hu; subst hu; rfl) (by omega) (by omega) (by have := HP.out.below.size; simp; omega) ?_; intro ao3 cap3 w3 hO3 hG3 _)
          obtain ⟨p, hp⟩ := HP.out.push HB.out (k := l.length) _ _ _ (by omega) (by omega) (fun e => absurd rfl e) (by omega) (Nat.le_refl _) hO3 hG3
          go_ret
          exact ⟨ps ++ [p], ao3, cap3, by rw [List.length_append]; rfl, (by rw [hlf] at hp; exact hp), by rw [List.length_append, HPs.out]; rfl⟩
        · go_wp2_with (at_builtin; refine wpList_append_v rfl (.tmp 38) (.tmp 42) 47 rfl w.heap.size 25 i0 (.slice none 0 0) 1 24 Tryz.underlying47 Hi.out Hz0.out Hz1.out Hz2.out rfl (by decide) rfl (HP.out.own.alloc _) rfl (IsV.made _ _ 1 _ _) rfl (fun u hu => by simp at hu; subst hu; rfl) (by omega) (by omega) (by have := HP.out.below.size; simp; omega) ?_; intro ao3 cap3 w3 hO3 hG3 _)
          obtain ⟨p, hp⟩ := HP.out.push HB.out (k := l.length) _ _ _ (by omega) (by omega) (fun _ => rfl) (by omega) (Nat.le_refl _) hO3 hG3
          go_ret
          exact ⟨ps ++ [p], ao3, cap3, by rw [List.length_append]; rfl, hp, by rw [List.length_append, HPs.out]; rfl⟩
end Go.Proofs.YtjpenioloeplgadGreatDoor
