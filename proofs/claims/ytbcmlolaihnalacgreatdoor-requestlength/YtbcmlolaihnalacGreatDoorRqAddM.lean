/- Package request, walked: add (bytes of a body more behind such). -/
import Derived.Test.YtbcmlolaihnalacGreatDoorRqAdd
import Derived.Deep.RegionLaw
import Derived.Deep.AppendLies
namespace Go.Proofs.YtbcmlolaihnalacGreatDoor
open Go.RowKit

/-- the row's cell, and that it may be written -/
theorem row_cell {w : World} {g cap m : Nat} {xs : List Value} (h : OwnV w 0 47 12 (some ⟨g, 0, none⟩) cap (m + 1) xs) (j : Nat) (hj : j < 12) {u : Value} (hu : xs[m * 12 + j]? = some u) : w.cell? ⟨g, m * 12 + j, none⟩ = some u ∧ w.frozen? ⟨g, m * 12 + j, none⟩ = false :=
  ⟨(World.ownsRow.cellAt h (m * 12 + j) (by omega)).trans hu, World.ownsRow.frozenAt h _⟩

theorem set_other (w : World) {b j g : Nat} {u : Value} (h : w.cell? ⟨b, j, none⟩ = some u) (hn : b ≠ g) (i : Nat) (v : Value) : (w.setCell ⟨g, i, none⟩ v).cell? ⟨b, j, none⟩ = some u := by
  rw [World.cell?_of_block (heap_setCell_other w _ b v hn)]; exact h

theorem merge_out {w w3 : World} {S : Nat → Prop} {qs : List (EvD × EvS)} {x e : EvD} {sx : EvS} {g cap m g3 cap3 : Nat} {ob : Obj}
    (own : OwnV w 0 47 12 (some ⟨g, 0, none⟩) cap (m + 1) (rowsV (qs ++ [(x, sx)]))) (mem : S g)
    (ahead : ∀ p ∈ qs, InE w (fun k => (S k ∧ k ≠ g) ∧ lastB x sx ≠ some k) p.1 p.2)
    (fields : IsVS w (fun k => (S k ∧ k ≠ g) ∧ lastB x sx ≠ some k) sx.fo sx.fcap x.fields.length (pairV x.fields))
    (pbytes : IsBS w (fun k => (S k ∧ k ≠ g) ∧ lastB x sx ≠ some k) sx.po sx.pcap x.pbytes)
    (bytes : GrowB w (fun k => S k ∧ k ≠ g) 5 sx.bo sx.bcap x.bytes) (hlb : lastB x sx = blockOf sx.bo) (hq : qs.length = m)
    (hT : Turns (fun _ => False) w (w.alloc ob)) (hG : (w.alloc ob).drew.grownBy w3 (Value.slice sx.bo x.bytes.length sx.bcap).ownBlock)
    (hO : w3.ownsRow 0 5 1 (.slice (some ⟨g3, 0, none⟩) (x.bytes.length + e.bytes.length) cap3) (x.bytes.length + e.bytes.length) (byteV x.bytes ++ byteV e.bytes))
    (hA : (Value.slice sx.bo x.bytes.length sx.bcap).ownBlock = some g3 ∨ g3 = w.heap.size + 1) (hne : x.bytes ≠ [] := by assumption) :
    OutAt (w3.setCell ⟨g, m * 12 + 6, none⟩ (.slice (some ⟨g3, 0, none⟩) (x.bytes.length + e.bytes.length) cap3)) (orNew S w) 47 5 (some ⟨g, 0, none⟩) cap (qs.map (·.1) ++ [{ x with bytes := x.bytes ++ e.bytes }]) ∧ Turns S w (w3.setCell ⟨g, m * 12 + 6, none⟩ (.slice (some ⟨g3, 0, none⟩) (x.bytes.length + e.bytes.length) cap3)) := by
  subst hq
  rw [ownBlock_slice] at hG hA
  have hO' : OwnB w3 0 5 (some ⟨g3, 0, none⟩) cap3 (x.bytes ++ e.bytes) := by
    unfold OwnB; rw [byteV_append, List.length_append]; exact hO
  refine OutAt.merge own mem ahead fields pbytes bytes (Or.inl ⟨by simp [hne], hO', fun a ha => ?_⟩) (by simp) ?_
  · injection ha with ha; subst ha
    rcases hA with h | h
    · exact Or.inl (hlb.trans h)
    · exact Or.inr (by show w.heap.size ≤ g3; omega)
  · have h1 : Turns (fun k => lastB x sx = some k) w (w.alloc ob) := hT.mono (fun _ h => h.elim)
    have h2 : Turns (fun k => lastB x sx = some k) (w.alloc ob) (w.alloc ob).drew := Turns.of_below (below_drew _ _)
    have h3 : Turns (fun k => lastB x sx = some k) (w.alloc ob).drew w3 := Turns.of_grown hG (fun k h => hlb.trans h)
    exact h1.trans (h2.trans h3 (fun _ h _ => h)) (fun _ h _ => h)

set_option maxHeartbeats 2000000 in
set_option maxRecDepth 100000 in
theorem add_merge_at (w : World) (S : Nat → Prop) (ao : Option Addr) (cap m : Nat) (q : List EvD) (x : EvD) (e : EvD) (s : EvS) (h : OutAt w S 47 5 ao cap (q ++ [x])) (bb oo : Nat) (hbc : ∀ j (hj : j < e.bytes.length), w.cell? ⟨bb, oo + j, none⟩ = some (.int .u8 (e.bytes[j].toNat : Int))) (hm : q.length = m) (hl : m ≤ 1000000) (hk : e.kind = 2) (hx : x.kind = 2) (hb : x.bytes ≠ []) (he : e.bytes ≠ []) (hz : x.bytes.length + e.bytes.length ≤ 1000000) :
    Calls Tryz.prog 25 #[.slice ao (m + 1) cap, .agg #[.int .i64 e.kind, .string e.method, .string e.target, .int .i64 e.minor, .slice s.fo e.fields.length s.fcap, .int .i64 e.length, .slice (some ⟨bb, oo, none⟩) e.bytes.length s.bcap, .string e.pname, .string e.pfile, .string e.ptype, .slice s.po e.pbytes.length s.pcap, .int .i64 e.code]] w fun v w' => v = .returned (.slice ao (m + 1) cap) ∧ OutAt w' (orNew S w) 47 5 ao cap (q ++ [{ x with bytes := x.bytes ++ e.bytes }]) ∧ Turns S w w' := by
  have k2 : (e.kind == 2) = true := beq_iff_eq.2 hk
  obtain ⟨qs, sx, g, rfl, rfl, own, mem, ahead, fields, pbytes, bytes⟩ := h.last rfl
  have hqm : qs.length = m := by simpa using hm
  rw [hqm] at own
  have hcap : m + 1 ≤ cap := own.isV.1
  have hB : Below w.heap.size w (w.alloc (.cells #[.int .i64 e.kind, .string e.method, .string e.target, .int .i64 e.minor, .slice s.fo e.fields.length s.fcap, .int .i64 e.length, .slice (some ⟨bb, oo, none⟩) e.bytes.length s.bcap, .string e.pname, .string e.pfile, .string e.ptype, .slice s.po e.pbytes.length s.pcap, .int .i64 e.code] 47)) := (Below.refl _ w).alloc (Nat.le_refl _) _
  have hT := Turns.of_below (S := fun _ => False) hB
  have hlb : lastB x sx = blockOf sx.bo := by unfold lastB; rw [if_neg hb]
  obtain ⟨_, hown, hmem⟩ : x.bytes ≠ [] ∧ OwnB w 0 5 sx.bo sx.bcap x.bytes ∧ ∀ a, sx.bo = some a → S a.block ∧ a.block ≠ g := by
    rcases bytes with h | ⟨h, _⟩
    · exact h
    · exact absurd h hb
  have u0 : (rowsV (qs ++ [(x, sx)]))[m * 12 + 0]? = some (.int .i64 2) := by
    rw [rowsV_at _ m (by simp [hqm]) 0 (by omega)]; simp [← hqm, EvD.cells, hx]
  have u6 : (rowsV (qs ++ [(x, sx)]))[m * 12 + 6]? = some (.slice sx.bo x.bytes.length sx.bcap) := by
    rw [rowsV_at _ m (by simp [hqm]) 6 (by omega)]; simp [← hqm, EvD.cells]
  have own1 := own.stay hB
  have HOW := Hid.mk' own1
  have c0 := (row_cell own1 0 (by omega) u0).1
  have c6 := (row_cell own1 6 (by omega) u6).1
  rw [Nat.add_zero] at c0
  have HU6 := Hid.mk' u6
  have HB := Hid.mk' (hown.stay hB)
  have hN : ∀ W, Below (w.alloc (.cells #[.int .i64 e.kind, .string e.method, .string e.target, .int .i64 e.minor, .slice s.fo e.fields.length s.fcap, .int .i64 e.length, .slice (some ⟨bb, oo, none⟩) e.bytes.length s.bcap, .string e.pname, .string e.pfile, .string e.ptype, .slice s.po e.pbytes.length s.pcap, .int .i64 e.code] 47)).heap.size (w.alloc (.cells #[.int .i64 e.kind, .string e.method, .string e.target, .int .i64 e.minor, .slice s.fo e.fields.length s.fcap, .int .i64 e.length, .slice (some ⟨bb, oo, none⟩) e.bytes.length s.bcap, .string e.pname, .string e.pfile, .string e.ptype, .slice s.po e.pbytes.length s.pcap, .int .i64 e.code] 47)) W → ∀ j u, (byteV e.bytes)[j]? = some u → W.cell? (Addr.add ⟨bb, oo, none⟩ j) = some u := fun W hW j u hu => by
    have hj : j < e.bytes.length := by
      have := (List.getElem?_eq_some_iff.1 hu).1
      rwa [byteV_length] at this
    rw [byteV_at _ j hj] at hu
    injection hu with hu; subst hu
    have h1 := hbc j hj
    have h2 := (hB.cell (World.block_lt_of_cell? w _ h1)).trans h1
    rw [Addr.add_lit]
    exact (hW.cell (World.block_lt_of_cell? _ _ h2)).trans h2
  have HN : Hid (∀ n : Nat, ∀ j u, (byteV e.bytes)[j]? = some u → ((w.alloc (.cells #[.int .i64 e.kind, .string e.method, .string e.target, .int .i64 e.minor, .slice s.fo e.fields.length s.fcap, .int .i64 e.length, .slice (some ⟨bb, oo, none⟩) e.bytes.length s.bcap, .string e.pname, .string e.pfile, .string e.ptype, .slice s.po e.pbytes.length s.pcap, .int .i64 e.code] 47)).drewN n).cell? (Addr.add ⟨bb, oo, none⟩ j) = some u) := fun n => hN _ (drewN_below ⟨n, rfl⟩)
  have hK : ∀ W W3 : World, Below (w.alloc (.cells #[.int .i64 e.kind, .string e.method, .string e.target, .int .i64 e.minor, .slice s.fo e.fields.length s.fcap, .int .i64 e.length, .slice (some ⟨bb, oo, none⟩) e.bytes.length s.bcap, .string e.pname, .string e.pfile, .string e.ptype, .slice s.po e.pbytes.length s.pcap, .int .i64 e.code] 47)).heap.size (w.alloc (.cells #[.int .i64 e.kind, .string e.method, .string e.target, .int .i64 e.minor, .slice s.fo e.fields.length s.fcap, .int .i64 e.length, .slice (some ⟨bb, oo, none⟩) e.bytes.length s.bcap, .string e.pname, .string e.pfile, .string e.ptype, .slice s.po e.pbytes.length s.pcap, .int .i64 e.code] 47)) W → W.grownBy W3 (Value.slice sx.bo x.bytes.length sx.bcap).ownBlock → (W3.cell? ⟨g, m * 12 + 6, none⟩ = some (.slice sx.bo x.bytes.length sx.bcap) ∧ W3.cell? ⟨w.heap.size, 6, none⟩ = some (.slice (some ⟨bb, oo, none⟩) e.bytes.length s.bcap)) ∧ W3.frozen? ⟨g, m * 12 + 6, none⟩ = false := fun W W3 hW hG => by
    rw [ownBlock_slice] at hG
    have h1 := own1.stay hW
    have h2 : OwnV W3 0 47 12 (some ⟨g, 0, none⟩) cap (m + 1) (rowsV (qs ++ [(x, sx)])) := h1.kept hG (fun a ha hb2 => by
      injection ha with ha; subst ha
      cases hh : sx.bo with
      | none => rw [hh] at hb2; cases hb2
      | some a => rw [hh] at hb2; injection hb2 with hb2; exact (hmem a hh).2 hb2.symm)
    have h3 := row_cell h2 6 (by omega) u6
    have h4 : (w.alloc (.cells #[.int .i64 e.kind, .string e.method, .string e.target, .int .i64 e.minor, .slice s.fo e.fields.length s.fcap, .int .i64 e.length, .slice (some ⟨bb, oo, none⟩) e.bytes.length s.bcap, .string e.pname, .string e.pfile, .string e.ptype, .slice s.po e.pbytes.length s.pcap, .int .i64 e.code] 47)).cell? ⟨w.heap.size, 6, none⟩ = some (.slice (some ⟨bb, oo, none⟩) e.bytes.length s.bcap) := by rw [World.cell?_alloc_mark]; rfl
    have h5 := (hW.cell (World.block_lt_of_cell? _ _ h4)).trans h4
    refine ⟨⟨h3.1, hG.cell h5 (fun hb2 => ?_)⟩, h3.2⟩
    cases hh : sx.bo with
    | none => rw [hh] at hb2; cases hb2
    | some a =>
      rw [hh] at hb2; injection hb2 with hb2
      have hb3 : w.heap.size = a.block := hb2
      have := (hown.block a hh).2
      omega
  have HK := Hid.mk' hK
  have HE := Hid.mk' (And.intro own (And.intro mem (And.intro ahead (And.intro fields (And.intro pbytes bytes)))))
  have HLB := Hid.mk' hlb
  have HT := Hid.mk' hT
  obtain ⟨i0, hi0, hz0, hz1, hz2⟩ := info_parts info_u8
  have Hi := Hid.mk' hi0; have Hz0 := Hid.mk' hz0; have Hz1 := Hid.mk' hz1; have Hz2 := Hid.mk' hz2
  have hz' : x.bytes.length + e.bytes.length ≤ 140737488355328 := by omega
  have HZ := Hid.mk' hz'
  have HNG : Hid (w.heap.size ≠ g) := by
    have := (own.block _ rfl).2
    show w.heap.size ≠ g
    have h2 : g < w.heap.size := this
    omega
  have HL : Hid ((byteV e.bytes).length = e.bytes.length * 1 ∧ 0 < e.bytes.length ∧ x.bytes.length + e.bytes.length ≤ maxLen ∧ (x.bytes.length + e.bytes.length) * 1 ≤ 140737488355328) := ⟨by rw [byteV_length]; omega, List.length_pos_iff.2 he, by unfold maxLen; omega, by omega⟩
  have HQ := Hid.mk' hqm
  have m0 : (0 : Int) ≤ (m : Int) := by omega
  have m1 : (m : Int) < (m : Int) + 1 := by omega
  have m2 : ((m + 1 : Nat) : Int) - 1 = (m : Int) := by omega
  clear hi0 hz0 hz1 hz2 h hk hx u0 u6 own own1 mem ahead fields pbytes bytes hown hmem hK hlb hT hB hz hz' hm hqm hbc hN he
  go_enter Tryz.func25, Tryz.ntmps25
  go_wp2
  go_region_law
    ((refine step_append_lies _ (by rfl) _ _ _ (by rfl) 0 5 i0 (.int .u8 0) 1 1 Tryz.underlying22 Hi.out Hz0.out Hz1.out Hz2.out (by rfl) (by decide) (.slice sx.bo x.bytes.length sx.bcap) x.bytes.length (byteV x.bytes) (by rfl) (HB.out.stay (below_drew _ _)) ⟨bb, oo, none⟩ e.bytes.length s.bcap (byteV e.bytes) (by rfl) HL.out.1 (HN.out _) (byteV_one e.bytes) HL.out.2.1 HL.out.2.2.1 HL.out.2.2.2 (Nat.zero_le _) (w.heap.size + 1) (by simp) ?_; intro g3 cap3 w3 hown3 hgrow hat3 hlt3; have HF3 := Hid.mk' (HK.out _ _ (below_drew _ _) hgrow); have hfz := HF3.out.2; have hcl := HF3.out.1.1; have HG3 := Hid.mk' hgrow; have HO3 := Hid.mk' hown3; have HA3 := Hid.mk' hat3; clear hgrow hown3 hat3))
  all_goals (go_wp2; go_ret; refine ⟨rfl, ?_⟩; exact merge_out HE.out.1 HE.out.2.1 HE.out.2.2.1 HE.out.2.2.2.1 HE.out.2.2.2.2.1 HE.out.2.2.2.2.2 HLB.out HQ.out HT.out HG3.out HO3.out HA3.out)

theorem add_merge (w : World) (S : Nat → Prop) (ao : Option Addr) (cap m : Nat) (q : List EvD) (x : EvD) (e : EvD) (s : EvS) (h : OutAt w S 47 5 ao cap (q ++ [x])) (hE : IsB w s.bo s.bcap e.bytes) (hm : q.length = m) (hl : m ≤ 1000000) (hk : e.kind = 2) (hx : x.kind = 2) (hb : x.bytes ≠ []) (he : e.bytes ≠ []) (hz : x.bytes.length + e.bytes.length ≤ 1000000) :
    Calls Tryz.prog 25 #[.slice ao (m + 1) cap, .agg #[.int .i64 e.kind, .string e.method, .string e.target, .int .i64 e.minor, .slice s.fo e.fields.length s.fcap, .int .i64 e.length, .slice s.bo e.bytes.length s.bcap, .string e.pname, .string e.pfile, .string e.ptype, .slice s.po e.pbytes.length s.pcap, .int .i64 e.code]] w fun v w' => v = .returned (.slice ao (m + 1) cap) ∧ OutAt w' (orNew S w) 47 5 ao cap (q ++ [{ x with bytes := x.bytes ++ e.bytes }]) ∧ Turns S w w' := by
  obtain ⟨bb, oo, hbo, hbc⟩ := hE.lit (List.length_pos_iff.2 he)
  have := add_merge_at w S ao cap m q x e s h bb oo hbc hm hl hk hx hb he hz
  rw [hbo]
  exact this
end Go.Proofs.YtbcmlolaihnalacGreatDoor
