/- Package request, walked: add (an event more behind others). -/
import Derived.Test.YtkafbifogdoneacGreatDoorPk5
import Derived.Test.YtkafbifogdoneacGreatDoorPk9
namespace Go.Proofs.YtkafbifogdoneacGreatDoor
open Go.RowKit

theorem info_ev : (Tryz.prog.info? 32).map (fun i => (i.zero, i.size, i.bytes)) = some (some (.agg #[.int .i64 0, .string ⟨#[]⟩, .string ⟨#[]⟩, .int .i64 0, .slice none 0 0, .int .i64 0, .slice none 0 0, .string ⟨#[]⟩, .string ⟨#[]⟩, .string ⟨#[]⟩, .slice none 0 0, .int .i64 0]), 12, 184) := by kernel_rfl

/-- an event that comes in: its memory lies among N, apart from S -/
structure NewE (w : World) (S N : Nat → Prop) (e : EvD) (s : EvS) : Prop where
  fields : IsVS w (fun k => N k ∧ lastB e s ≠ some k) s.fo s.fcap e.fields.length (pairV e.fields)
  pbytes : IsBS w (fun k => N k ∧ lastB e s ≠ some k) s.po s.pcap e.pbytes
  bytes : GrowB w N 5 s.bo s.bcap e.bytes
  apart : ∀ k, S k → ¬ N k
theorem NewE.stay {w w' : World} {S N : Nat → Prop} {e : EvD} {s : EvS} (h : NewE w S N e s) (hb : Below w.heap.size w w') : NewE w' S N e s :=
  have ht := Turns.of_below (S := fun _ => False) hb
  ⟨h.fields.turns ht (fun _ _ k => k), h.pbytes.turns ht (fun _ _ k => k), h.bytes.turns ht (fun _ _ k => k), h.apart⟩
/-- what add comes to -/
inductive AddOut (w : World) (S N : Nat → Prop) (es : List EvD) (e : EvD) (v : Ending) (w' : World) : Prop
  | mk (ao : Option Addr) (cap : Nat) (hv : v = .returned (.slice ao (es.length + 1) cap)) (hO : OutAt w' (fun k => S k ∨ N k ∨ w.heap.size ≤ k) 32 5 ao cap (es ++ [e])) (hT : Turns S w w')
/-- all that is known ahead -/
structure AddIn (w : World) (S N : Nat → Prop) (ao : Option Addr) (ps : List (EvD × EvS)) (es : List EvD) (e : EvD) (s : EvS) : Prop where
  es : ps.map (·.1) = es
  mem : ∀ a, ao = some a → S a.block
  ins : ∀ p ∈ ps, InE w (fun k => S k ∧ blockOf ao ≠ some k) p.1 p.2
  new : NewE w S N e s
theorem AddOut.of {w w3 : World} {S N : Nat → Prop} {ao ao3 : Option Addr} {cap3 n : Nat} {ps : List (EvD × EvS)} {es : List EvD} {e : EvD} {s : EvS} {x y : Obj}
    (h : AddIn w S N ao ps es e s) (hO : OwnV w3 0 32 12 ao3 cap3 (n + 1) (rowsV ps ++ e.cells s)) (hG : ((w.alloc x).alloc y).grownBy w3 (blockOf ao)) (hat : blockOf ao3 = blockOf ao ∨ blockOf ao3 = some ((w.alloc x).alloc y).heap.size) (hn : n = es.length := by rfl) :
    AddOut w S N es e (.returned (.slice ao3 (n + 1) cap3)) w3 := by
  subst hn
  have hB : Below w.heap.size w ((w.alloc x).alloc y) := ((Below.refl _ _).alloc (Nat.le_refl _) _).alloc (by simp) _
  have hT := Turns.of_below (S := fun _ => False) hB
  have hl : es.length = ps.length := by rw [← h.es]; simp
  have hin : ∀ p ∈ ps, InE ((w.alloc x).alloc y) (fun k => S k ∧ blockOf ao ≠ some k) p.1 p.2 := fun p hp => (h.ins p hp).turns hT (fun _ _ k => k)
  have hnew := h.new.stay hB
  have hO' : OwnV w3 0 32 12 ao3 cap3 (ps.length + 1) (rowsV (ps ++ [(e, s)])) := by
    rw [rowsV_append, ← hl]
    have e1 : rowsV [(e, s)] = e.cells s := by simp [rowsV]
    rw [e1]; exact hO
  have hM := OutAt.more (tb := 5) h.mem hin hnew.fields hnew.pbytes hnew.bytes hnew.apart hO' rfl hG hat
  refine .mk ao3 cap3 rfl ?_ ?_
  · rw [← h.es]
    refine hM.mono (fun k _ hk => ?_)
    rcases hk with hk | hk | hk
    · exact Or.inl hk
    · exact Or.inr (Or.inl hk)
    · refine Or.inr (Or.inr ?_); rw [hk]; exact hB.size
  · refine (Turns.of_below (S := S) hB).trans (Turns.of_grown (S := S) hG (fun k hk => ?_)) (fun _ k _ => k)
    cases ao with
    | none => cases hk
    | some a => injection hk with hk; subst hk; exact h.mem a rfl

set_option maxHeartbeats 1000000 in
set_option maxRecDepth 100000 in
/-- one that is no body -/
theorem add_other (w : World) (S N : Nat → Prop) (ao : Option Addr) (cap : Nat) (es : List EvD) (e : EvD) (s : EvS) (h : OutAt w S 32 5 ao cap es) (hE : NewE w S N e s) (hl : es.length ≤ 1000000) (hk : e.kind ≠ 2) :
    Calls Tryz.prog 57 #[.slice ao es.length cap, .agg #[.int .i64 e.kind, .string e.method, .string e.target, .int .i64 e.minor, .slice s.fo e.fields.length s.fcap, .int .i64 e.length, .slice s.bo e.bytes.length s.bcap, .string e.pname, .string e.pfile, .string e.ptype, .slice s.po e.pbytes.length s.pcap, .int .i64 e.code]] w fun v w' => AddOut w S N es e v w' := by
  have k2 : (e.kind == 2) = false := beq_eq_false_iff_ne.2 hk
  obtain ⟨ps, hes, hO, hA, hI⟩ := h.own
  have HP : Hid (AddIn w S N ao ps es e s) := ⟨hes, hA, hI, hE⟩
  have HO := Hid.mk' hO
  obtain ⟨i0, hi0, hz0, hz1, hz2⟩ := info_parts info_ev
  have Hi := Hid.mk' hi0; have Hz0 := Hid.mk' hz0; have Hz1 := Hid.mk' hz1; have Hz2 := Hid.mk' hz2
  clear hi0 hz0 hz1 hz2 h hE hes hO hA hI hk
  go_enter Tryz.func57, Tryz.ntmps57
  go_wp2_with (at_builtin; go_loud (refine wpList_append_v rfl (.tmp 37) (.tmp 39) 26 rfl 0 32 i0 (.agg #[.int .i64 0, .string ⟨#[]⟩, .string ⟨#[]⟩, .int .i64 0, .slice none 0 0, .int .i64 0, .slice none 0 0, .string ⟨#[]⟩, .string ⟨#[]⟩, .string ⟨#[]⟩, .slice none 0 0, .int .i64 0]) 12 184 Tryz.underlying26 Hi.out Hz0.out Hz1.out Hz2.out rfl (by decide) rfl ((HO.out.alloc _).alloc _) rfl (EvD.made e s _ _ _ (by simp)) rfl (cells_one e s) (by omega) (by omega) (Nat.zero_le _) ?_; intro ao3 cap3 w3 hO3 hG3 hat3))
  go_ret
  exact AddOut.of HP.out hO3 hG3 hat3

set_option maxHeartbeats 1000000 in
set_option maxRecDepth 100000 in
/-- a body that is the first -/
theorem add_first (w : World) (S N : Nat → Prop) (e : EvD) (s : EvS) (hE : NewE w S N e s) (hk : e.kind = 2) :
    Calls Tryz.prog 57 #[.slice none 0 0, .agg #[.int .i64 e.kind, .string e.method, .string e.target, .int .i64 e.minor, .slice s.fo e.fields.length s.fcap, .int .i64 e.length, .slice s.bo e.bytes.length s.bcap, .string e.pname, .string e.pfile, .string e.ptype, .slice s.po e.pbytes.length s.pcap, .int .i64 e.code]] w fun v w' => AddOut w S N [] e v w' := by
  have k2 : (e.kind == 2) = true := beq_iff_eq.2 hk
  have HP : Hid (AddIn w S N none [] [] e s) := ⟨rfl, (fun a k => by cases k), (fun p hp => by cases hp), hE⟩
  have HO := Hid.mk' (OwnV.nil w 0 32 12)
  obtain ⟨i0, hi0, hz0, hz1, hz2⟩ := info_parts info_ev
  have Hi := Hid.mk' hi0; have Hz0 := Hid.mk' hz0; have Hz1 := Hid.mk' hz1; have Hz2 := Hid.mk' hz2
  clear hi0 hz0 hz1 hz2 hE hk
  go_enter Tryz.func57, Tryz.ntmps57
  go_wp2_with (at_builtin; go_loud (refine wpList_append_v rfl (.tmp 37) (.tmp 39) 26 rfl 0 32 i0 (.agg #[.int .i64 0, .string ⟨#[]⟩, .string ⟨#[]⟩, .int .i64 0, .slice none 0 0, .int .i64 0, .slice none 0 0, .string ⟨#[]⟩, .string ⟨#[]⟩, .string ⟨#[]⟩, .slice none 0 0, .int .i64 0]) 12 184 Tryz.underlying26 Hi.out Hz0.out Hz1.out Hz2.out rfl (by decide) rfl ((HO.out.alloc _).alloc _) rfl (EvD.made e s _ _ _ (by simp)) rfl (cells_one e s) (by omega) (by omega) (Nat.zero_le _) ?_; intro ao3 cap3 w3 hO3 hG3 hat3))
  go_ret
  exact AddOut.of (n := 0) HP.out hO3 hG3 hat3

set_option maxHeartbeats 1000000 in
set_option maxRecDepth 100000 in
/-- a body behind another thing -/
theorem add_behind (w : World) (S N : Nat → Prop) (ao : Option Addr) (cap m : Nat) (es : List EvD) (e : EvD) (s : EvS) (h : OutAt w S 32 5 ao cap es) (hE : NewE w S N e s) (hm : es.length = m + 1) (hl : m ≤ 1000000) (hk : e.kind = 2) (hx : ∀ x, es.getLast? = some x → x.kind ≠ 2) :
    Calls Tryz.prog 57 #[.slice ao (m + 1) cap, .agg #[.int .i64 e.kind, .string e.method, .string e.target, .int .i64 e.minor, .slice s.fo e.fields.length s.fcap, .int .i64 e.length, .slice s.bo e.bytes.length s.bcap, .string e.pname, .string e.pfile, .string e.ptype, .slice s.po e.pbytes.length s.pcap, .int .i64 e.code]] w fun v w' => AddOut w S N es e v w' := by
  have k2 : (e.kind == 2) = true := beq_iff_eq.2 hk
  obtain ⟨ps, hes, hO, hA, hI⟩ := h.own
  have hlen : ps.length = m + 1 := by rw [← hm, ← hes]; simp
  have hv := hO.isV
  obtain ⟨b, o, hao, hc⟩ := hv.lit (by rw [rowsV_length]; omega)
  have hcell : w.cell? ⟨b, o + m * 12, none⟩ = some (.int .i64 ps[m].1.kind) := hc (m * 12) _ (by
    have := rowsV_at ps m (by omega) 0 (by omega)
    rw [Nat.add_zero] at this
    rw [this]; rfl)
  have hkx : ps[m].1.kind ≠ 2 := hx _ (by
    have hq : ps[ps.length - 1]? = some ps[m] := by rw [show ps.length - 1 = m by omega, List.getElem?_eq_getElem (by omega)]
    rw [← hes, List.getLast?_map, List.getLast?_eq_getElem?, hq]; rfl)
  generalize ps[m].1.kind = kx at hcell hkx
  have kx2 : (kx == 2) = false := beq_eq_false_iff_ne.2 hkx
  have c0 : (w.alloc (.cells #[.int .i64 e.kind, .string e.method, .string e.target, .int .i64 e.minor, .slice s.fo e.fields.length s.fcap, .int .i64 e.length, .slice s.bo e.bytes.length s.bcap, .string e.pname, .string e.pfile, .string e.ptype, .slice s.po e.pbytes.length s.pcap, .int .i64 e.code] 32)).cell? ⟨b, o + m * 12, none⟩ = some (.int .i64 kx) := ((Below.refl _ w).alloc (Nat.le_refl _) _).cell (World.block_lt_of_cell? w _ hcell) ▸ hcell
  have hcap : m + 1 ≤ cap := by have := hv.1; rwa [hm] at this
  rw [hm] at hO
  subst hao
  have HP : Hid (AddIn w S N (some ⟨b, o, none⟩) ps es e s) := ⟨hes, hA, hI, hE⟩
  have HO := Hid.mk' hO; have HM := Hid.mk' hm
  obtain ⟨i0, hi0, hz0, hz1, hz2⟩ := info_parts info_ev
  have Hi := Hid.mk' hi0; have Hz0 := Hid.mk' hz0; have Hz1 := Hid.mk' hz1; have Hz2 := Hid.mk' hz2
  clear hi0 hz0 hz1 hz2 h hE hes hO hA hI hk hv hc hcell hkx hx hm hlen
  go_enter Tryz.func57, Tryz.ntmps57
  go_wp2_with (at_builtin; go_loud (refine wpList_append_v rfl (.tmp 37) (.tmp 39) 26 rfl 0 32 i0 (.agg #[.int .i64 0, .string ⟨#[]⟩, .string ⟨#[]⟩, .int .i64 0, .slice none 0 0, .int .i64 0, .slice none 0 0, .string ⟨#[]⟩, .string ⟨#[]⟩, .string ⟨#[]⟩, .slice none 0 0, .int .i64 0]) 12 184 Tryz.underlying26 Hi.out Hz0.out Hz1.out Hz2.out rfl (by decide) rfl ((HO.out.alloc _).alloc _) rfl (EvD.made e s _ _ _ (by simp)) rfl (cells_one e s) (by omega) (by omega) (Nat.zero_le _) ?_; intro ao3 cap3 w3 hO3 hG3 hat3))
  go_ret
  exact AddOut.of (n := m + 1) HP.out hO3 hG3 hat3 HM.out.symm

end Go.Proofs.YtkafbifogdoneacGreatDoor
