/- Small texts, one behind the other: RqAddM, RqAddD. -/
import Derived.Test.YtkafbifogdoneacGreatDoorRqAdd
import Derived.Deep.RegionLaw
import Derived.Test.YtkafbifogdoneacGreatDoorMemG
import Derived.Test.YtkafbifogdoneacGreatDoorPk7
import Derived.Test.YtkafbifogdoneacGreatDoorPk4
/- Package request, walked: add (bytes of a body more behind such). -/
namespace Go.Proofs.YtkafbifogdoneacGreatDoor
open Go.RowKit

/-- the row's cell, and that it may be written -/
theorem row_cell {w : World} {g cap m : Nat} {xs : List Value} (h : OwnV w 0 32 12 (some ⟨g, 0, none⟩) cap (m + 1) xs) (j : Nat) (hj : j < 12) {u : Value} (hu : xs[m * 12 + j]? = some u) : w.cell? ⟨g, m * 12 + j, none⟩ = some u ∧ w.frozen? ⟨g, m * 12 + j, none⟩ = false :=
  ⟨(World.ownsRow.cellAt h (m * 12 + j) (by omega)).trans hu, World.ownsRow.frozenAt h _⟩

theorem set_other (w : World) {b j g : Nat} {u : Value} (h : w.cell? ⟨b, j, none⟩ = some u) (hn : b ≠ g) (i : Nat) (v : Value) : (w.setCell ⟨g, i, none⟩ v).cell? ⟨b, j, none⟩ = some u := by
  rw [World.cell?_of_block (heap_setCell_other w _ b v hn)]; exact h

theorem merge_out {w w3 : World} {S : Nat → Prop} {qs : List (EvD × EvS)} {x : EvD} {sx : EvS} {l2 : List UInt8} {g cap m : Nat} {bo3 : Option Addr} {cap3 n3 : Nat} {ob : Obj}
    (own : OwnV w 0 32 12 (some ⟨g, 0, none⟩) cap (m + 1) (rowsV (qs ++ [(x, sx)]))) (mem : S g)
    (ahead : ∀ p ∈ qs, InE w (fun k => (S k ∧ k ≠ g) ∧ lastB x sx ≠ some k) p.1 p.2)
    (bytes : GrowB w (fun k => S k ∧ k ≠ g) 5 sx.bo sx.bcap x.bytes) (hq : qs.length = m)
    (hT : Turns (fun k => blkB x.bytes sx.bo = some k) (w.alloc ob).drew w3) (hO : GrowB w3 (fun k => blkB x.bytes sx.bo = some k ∨ (w.alloc ob).drew.heap.size ≤ k) 5 bo3 cap3 (x.bytes ++ l2)) (hn : n3 = (x.bytes ++ l2).length) :
    OutAt (w3.setCells g (m * 12) [.int .i64 2, .string ⟨#[]⟩, .string ⟨#[]⟩, .int .i64 0, .slice none 0 0, .int .i64 0, .slice bo3 n3 cap3, .string ⟨#[]⟩, .string ⟨#[]⟩, .string ⟨#[]⟩, .slice none 0 0, .int .i64 0]) (orNew S w) 32 5 (some ⟨g, 0, none⟩) cap (qs.map (·.1) ++ [bodyD (x.bytes ++ l2)]) ∧ Turns S w (w3.setCells g (m * 12) [.int .i64 2, .string ⟨#[]⟩, .string ⟨#[]⟩, .int .i64 0, .slice none 0 0, .int .i64 0, .slice bo3 n3 cap3, .string ⟨#[]⟩, .string ⟨#[]⟩, .string ⟨#[]⟩, .slice none 0 0, .int .i64 0]) := by
  subst hq; subst hn
  have hB : Below w.heap.size w (w.alloc ob).drew := ((Below.refl _ w).alloc (Nat.le_refl _) _).trans (below_drew _ _)
  refine OutAt.replace own mem ahead bytes (hO.mono (fun k _ h => ?_)) ((Turns.of_below hB).trans hT (fun _ h _ => h))
  rcases h with h | h
  · exact Or.inl h
  · exact Or.inr (Nat.le_trans hB.size h)

set_option maxHeartbeats 4000000 in
set_option maxRecDepth 100000 in
theorem add_merge (w : World) (S : Nat → Prop) (ao : Option Addr) (cap m : Nat) (q : List EvD) (x : EvD) (e : EvD) (s : EvS) (h : OutAt w S 32 5 ao cap (q ++ [x])) (hE : IsB w s.bo s.bcap e.bytes) (hm : q.length = m) (hl : m ≤ 1000000) (hk : e.kind = 2) (hx : x.kind = 2) (hz : x.bytes.length + e.bytes.length ≤ 140737488355328) :
    Calls Tryz.prog 57 #[.slice ao (m + 1) cap, .agg #[.int .i64 e.kind, .string e.method, .string e.target, .int .i64 e.minor, .slice s.fo e.fields.length s.fcap, .int .i64 e.length, .slice s.bo e.bytes.length s.bcap, .string e.pname, .string e.pfile, .string e.ptype, .slice s.po e.pbytes.length s.pcap, .int .i64 e.code]] w fun v w' => v = .returned (.slice ao (m + 1) cap) ∧ OutAt w' (orNew S w) 32 5 ao cap (q ++ [bodyD (x.bytes ++ e.bytes)]) ∧ Turns S w w' := by
  have k2 : (e.kind == 2) = true := beq_iff_eq.2 hk
  obtain ⟨qs, sx, g, rfl, rfl, own, mem, ahead, _, _, bytes⟩ := h.last rfl
  have hqm : qs.length = m := by simpa using hm
  rw [hqm] at own
  have hcap : m + 1 ≤ cap := own.isV.1
  have hB : Below w.heap.size w (w.alloc (.cells #[.int .i64 e.kind, .string e.method, .string e.target, .int .i64 e.minor, .slice s.fo e.fields.length s.fcap, .int .i64 e.length, .slice s.bo e.bytes.length s.bcap, .string e.pname, .string e.pfile, .string e.ptype, .slice s.po e.pbytes.length s.pcap, .int .i64 e.code] 32)) := (Below.refl _ w).alloc (Nat.le_refl _) _
  have hlast : ∀ k, blkB x.bytes sx.bo = some k → S k ∧ k ≠ g := fun k h => by
    unfold blkB at h
    split at h
    · cases h
    · rcases bytes with ⟨_, _, h3⟩ | ⟨h1, _⟩
      · cases hbo : sx.bo with
        | none => rw [hbo] at h; cases h
        | some a => rw [hbo] at h; injection h with h; subst h; exact h3 a hbo
      · contradiction
  have uj : ∀ j, j < 12 → (rowsV (qs ++ [(x, sx)]))[m * 12 + j]? = (x.cells sx)[j]? := fun j hj => by
    rw [rowsV_at _ m (by simp [hqm]) j hj]; simp [← hqm]
  have own1 := own.stay hB
  have c0 : (w.alloc (.cells #[.int .i64 e.kind, .string e.method, .string e.target, .int .i64 e.minor, .slice s.fo e.fields.length s.fcap, .int .i64 e.length, .slice s.bo e.bytes.length s.bcap, .string e.pname, .string e.pfile, .string e.ptype, .slice s.po e.pbytes.length s.pcap, .int .i64 e.code] 32)).cell? ⟨g, m * 12 + 0, none⟩ = some (.int .i64 2) := (row_cell own1 0 (by omega) ((uj 0 (by omega)).trans (by show some (Value.int .i64 x.kind) = _; rw [hx]))).1
  have c6 : (w.alloc (.cells #[.int .i64 e.kind, .string e.method, .string e.target, .int .i64 e.minor, .slice s.fo e.fields.length s.fcap, .int .i64 e.length, .slice s.bo e.bytes.length s.bcap, .string e.pname, .string e.pfile, .string e.ptype, .slice s.po e.pbytes.length s.pcap, .int .i64 e.code] 32)).cell? ⟨g, m * 12 + 6, none⟩ = some (.slice sx.bo x.bytes.length sx.bcap) := (row_cell own1 6 (by omega) (uj 6 (by omega))).1
  rw [Nat.add_zero] at c0
  have HB : Hid (GrowB (w.alloc (.cells #[.int .i64 e.kind, .string e.method, .string e.target, .int .i64 e.minor, .slice s.fo e.fields.length s.fcap, .int .i64 e.length, .slice s.bo e.bytes.length s.bcap, .string e.pname, .string e.pfile, .string e.ptype, .slice s.po e.pbytes.length s.pcap, .int .i64 e.code] 32)).drew (fun k => S k ∧ k ≠ g) 5 sx.bo sx.bcap x.bytes) := (bytes.turns (Turns.of_below (S := fun _ => False) (hB.trans (below_drew _ _))) (fun _ _ e => e))
  have HN : Hid (IsB (w.alloc (.cells #[.int .i64 e.kind, .string e.method, .string e.target, .int .i64 e.minor, .slice s.fo e.fields.length s.fcap, .int .i64 e.length, .slice s.bo e.bytes.length s.bcap, .string e.pname, .string e.pfile, .string e.ptype, .slice s.po e.pbytes.length s.pcap, .int .i64 e.code] 32)).drew s.bo s.bcap e.bytes) := hE.stay (hB.trans (below_drew _ _))
  have HK : Hid (∀ W3 : World, Turns (fun k => blkB x.bytes sx.bo = some k) (w.alloc (.cells #[.int .i64 e.kind, .string e.method, .string e.target, .int .i64 e.minor, .slice s.fo e.fields.length s.fcap, .int .i64 e.length, .slice s.bo e.bytes.length s.bcap, .string e.pname, .string e.pfile, .string e.ptype, .slice s.po e.pbytes.length s.pcap, .int .i64 e.code] 32)).drew W3 → ∀ j, j < 12 → ∃ u, W3.cell? ⟨g, m * 12 + j, none⟩ = some u ∧ W3.frozen? ⟨g, m * 12 + j, none⟩ = false) := fun W3 hT j hj => by
    have h1 := (own1.stay (below_drew _ _)).turns hT (fun a ha hb2 => by injection ha with ha; subst ha; exact (hlast _ hb2).2 rfl)
    have h2 := uj j hj
    have h3 : (x.cells sx)[j]? = some ((x.cells sx)[j]'(by show j < 12; exact hj)) := List.getElem?_eq_getElem _
    have h4 := row_cell h1 j hj (h2.trans h3)
    exact ⟨_, h4.1, h4.2⟩
  have HE := Hid.mk' (And.intro own (And.intro mem (And.intro ahead bytes)))
  obtain ⟨i0, hi0, hz0, hz1, hz2⟩ := info_parts info_u8
  have Hi := Hid.mk' hi0; have Hz0 := Hid.mk' hz0; have Hz1 := Hid.mk' hz1; have Hz2 := Hid.mk' hz2
  have HZ := Hid.mk' hz
  have HQ := Hid.mk' hqm
  have m0 : (0 : Int) ≤ (m : Int) := by omega
  have m1 : (m : Int) < (m : Int) + 1 := by omega
  have m2 : ((m + 1 : Nat) : Int) - 1 = (m : Int) := by omega
  clear hi0 hz0 hz1 hz2 h hk hx own own1 mem ahead bytes hlast uj hB hz hm hqm hE
  go_enter Tryz.func57, Tryz.ntmps57
  go_wp2
  go_region_law
    ((refine step_append_grown (by rfl) _ _ _ (by rfl) 5 i0 Tryz.underlying22 Hi.out Hz0.out Hz1.out Hz2.out (by rfl) (by rfl) HB.out rfl HN.out rfl HZ.out ?_; intro bo3 cap3 w3 hO3 hT3; have HO3 := Hid.mk' hO3; have HT3 := Hid.mk' hT3; obtain ⟨v0, d0, f0⟩ := HK.out w3 hT3 0 (by decide); obtain ⟨v1, d1, f1⟩ := HK.out w3 hT3 1 (by decide); obtain ⟨v2, d2, f2⟩ := HK.out w3 hT3 2 (by decide); obtain ⟨v3, d3, f3⟩ := HK.out w3 hT3 3 (by decide); obtain ⟨v4, d4, f4⟩ := HK.out w3 hT3 4 (by decide); obtain ⟨v5, d5, f5⟩ := HK.out w3 hT3 5 (by decide); obtain ⟨v6, d6, f6⟩ := HK.out w3 hT3 6 (by decide); obtain ⟨v7, d7, f7⟩ := HK.out w3 hT3 7 (by decide); obtain ⟨v8, d8, f8⟩ := HK.out w3 hT3 8 (by decide); obtain ⟨v9, d9, f9⟩ := HK.out w3 hT3 9 (by decide); obtain ⟨v10, d10, f10⟩ := HK.out w3 hT3 10 (by decide); obtain ⟨v11, d11, f11⟩ := HK.out w3 hT3 11 (by decide); rw [Nat.add_zero] at d0 f0; clear hO3 hT3))
  all_goals (go_wp2; go_ret; refine ⟨rfl, ?_⟩; exact merge_out HE.out.1 HE.out.2.1 HE.out.2.2.1 HE.out.2.2.2 HQ.out HT3.out HO3.out (by rw [List.length_append]))
end Go.Proofs.YtkafbifogdoneacGreatDoor

/- Package request, walked: add, by what is joined. -/
namespace Go.Proofs.YtkafbifogdoneacGreatDoor
open Go.RowKit

/-- what add comes to -/
inductive AddD (w : World) (S N : Nat → Prop) (es : List EvD) (e : EvD) (v : Ending) (w' : World) : Prop
  | mk (ao : Option Addr) (cap n : Nat) (hv : v = .returned (.slice ao n cap)) (hn : n = (addD es e).length) (hO : OutAt w' (fun k => S k ∨ N k ∨ w.heap.size ≤ k) 32 5 ao cap (addD es e)) (hT : Turns S w w')
theorem out_none {w : World} {S : Nat → Prop} {tE tb : Nat} {ao : Option Addr} {cap : Nat} {es : List EvD} (h : OutAt w S tE tb ao cap es) (he : es = []) : ao = none ∧ cap = 0 := by
  cases h with
  | bare => exact ⟨rfl, rfl⟩
  | laid q e s g cap own => simp at he
theorem addD_any (w : World) (S N : Nat → Prop) (ao : Option Addr) (cap n : Nat) (es : List EvD) (e : EvD) (s : EvS) (h : OutAt w S 32 5 ao cap es) (hE : NewE w S N e s) (hn : es.length = n) (hl : n ≤ 1000000) (hz : (tailBytes es).length + e.bytes.length ≤ 140737488355328) :
    Calls Tryz.prog 57 #[.slice ao n cap, .agg #[.int .i64 e.kind, .string e.method, .string e.target, .int .i64 e.minor, .slice s.fo e.fields.length s.fcap, .int .i64 e.length, .slice s.bo e.bytes.length s.bcap, .string e.pname, .string e.pfile, .string e.ptype, .slice s.po e.pbytes.length s.pcap, .int .i64 e.code]] w fun v w' => AddD w S N es e v w' := by
  by_cases hp : e.kind = 2 ∧ tailD es = true
  · obtain ⟨q, x, rfl, hx⟩ := tailD_split hp.2
    rw [tailBytes_snoc] at hz
    obtain ⟨m, rfl⟩ : ∃ m, n = m + 1 := ⟨q.length, by rw [← hn]; simp⟩
    refine (add_merge w S ao cap m q x e s h hE.bytes.isB (by simpa using hn) (by omega) hp.1 hx hz).mono ?_
    rintro v w' ⟨rfl, hO, hT⟩
    have e1 := addD_merge q x e hx hp.1
    refine .mk ao cap (m + 1) rfl (by rw [e1]; simp at hn ⊢; omega) ?_ hT
    rw [e1]
    refine hO.mono (fun k _ hk => ?_)
    rcases hk with hk | hk
    · exact Or.inl hk
    · exact Or.inr (Or.inr hk)
  · have hq : e.kind = 2 → tailD es = false := fun k => by
      cases ht : tailD es
      · rfl
      · exact absurd ⟨k, ht⟩ hp
    have e1 := addD_plain es e hq
    have fin : ∀ {v w'}, AddOut w S N es e v w' → AddD w S N es e v w' := by
      rintro v w' ⟨ao', cap', hv, hO, hT⟩
      exact .mk ao' cap' _ hv (by rw [e1]; simp) (by rw [e1]; exact hO) hT
    by_cases hk : e.kind = 2
    · rcases List.eq_nil_or_concat es with hes | ⟨q, x, hes⟩
      · subst hes
        subst hn
        obtain ⟨rfl, rfl⟩ := out_none h rfl
        exact (add_first w S N e s hE hk).mono (fun v w' k => fin k)
      · rw [List.concat_eq_append] at hes
        obtain ⟨m, rfl⟩ : ∃ m, n = m + 1 := ⟨q.length, by rw [← hn, hes]; simp⟩
        refine (add_behind w S N ao cap m es e s h hE hn (by omega) hk (fun y hy k => ?_)).mono (fun v w' k => fin k)
        have h2 := hq hk
        rw [hes, tailD_snoc] at h2
        rw [hes, List.getLast?_append] at hy
        simp at hy
        rw [hy] at h2
        exact of_decide_eq_false h2 k
    · subst hn
      exact (add_other w S N ao cap es e s h hE hl hk).mono (fun v w' k => fin k)
end Go.Proofs.YtkafbifogdoneacGreatDoor
