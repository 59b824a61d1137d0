/- Events of requests in memory, and one more behind them: add, by what is joined. -/
import Derived.Test.YtbcmlolaihnalacGreatDoorRqAddM
import Derived.Test.YtbcmlolaihnalacGreatDoorPk6
import Derived.Test.YtbcmlolaihnalacGreatDoorFlB
namespace Go.Proofs.YtbcmlolaihnalacGreatDoor
open Go.RowKit

/-- an event as it lies in memory -/
def Rq.Ev.d : Rq.Ev → EvD
  | .head h => ⟨1, ⟨h.method.toArray⟩, ⟨h.target.toArray⟩, (h.minor : Int), Rq.flT h.fields, h.length, [], ⟨#[]⟩, ⟨#[]⟩, ⟨#[]⟩, [], 0⟩
  | .body b => ⟨2, ⟨#[]⟩, ⟨#[]⟩, 0, [], 0, b, ⟨#[]⟩, ⟨#[]⟩, ⟨#[]⟩, [], 0⟩
  | .fin => ⟨3, ⟨#[]⟩, ⟨#[]⟩, 0, [], 0, [], ⟨#[]⟩, ⟨#[]⟩, ⟨#[]⟩, [], 0⟩
  | .fail c => ⟨4, ⟨#[]⟩, ⟨#[]⟩, 0, [], 0, [], ⟨#[]⟩, ⟨#[]⟩, ⟨#[]⟩, [], (c : Int)⟩
abbrev EvsAt (w : World) (S : Nat → Prop) (ao : Option Addr) (cap : Nat) (es : List Rq.Ev) : Prop := OutAt w S 47 5 ao cap (es.map Rq.Ev.d)
/-- what add comes to -/
inductive AddEv (w : World) (S N : Nat → Prop) (es : List Rq.Ev) (e : Rq.Ev) (v : Ending) (w' : World) : Prop
  | mk (ao : Option Addr) (cap n : Nat) (hv : v = .returned (.slice ao n cap)) (hn : n = (Rq.join (es ++ [e])).length) (hO : EvsAt w' (fun k => S k ∨ N k ∨ w.heap.size ≤ k) ao cap (Rq.join (es ++ [e]))) (hT : Turns S w w')
theorem kind_body (e : Rq.Ev) : e.d.kind = 2 ↔ e.isBody = true := by cases e <;> simp [Rq.Ev.d, Rq.Ev.isBody]
theorem out_none {w : World} {S : Nat → Prop} {tE tb : Nat} {ao : Option Addr} {cap : Nat} {es : List EvD} (h : OutAt w S tE tb ao cap es) (he : es = []) : ao = none ∧ cap = 0 := by
  cases h with
  | bare => exact ⟨rfl, rfl⟩
  | laid q e s g cap own => simp at he
theorem addEv_any (w : World) (S N : Nat → Prop) (ao : Option Addr) (cap n : Nat) (es : List Rq.Ev) (e : Rq.Ev) (s : EvS) (h : EvsAt w S ao cap es) (hE : NewE w S N e.d s) (hn : es.length = n) (hl : n ≤ 100000) (hj : Rq.Joined es) (hf : Rq.Full es) (hb : ∀ a, e = .body a → a ≠ [] ∧ a.length ≤ 100000) (hz : Rq.bsum es ≤ 100000) :
    Calls Tryz.prog 25 #[.slice ao n cap, .agg #[.int .i64 e.d.kind, .string e.d.method, .string e.d.target, .int .i64 e.d.minor, .slice s.fo e.d.fields.length s.fcap, .int .i64 e.d.length, .slice s.bo e.d.bytes.length s.bcap, .string e.d.pname, .string e.d.pfile, .string e.d.ptype, .slice s.po e.d.pbytes.length s.pcap, .int .i64 e.d.code]] w fun v w' => AddEv w S N es e v w' := by
  have hm : (es.map Rq.Ev.d).length = n := by rw [List.length_map]; exact hn
  by_cases hp : e.isBody = true ∧ Rq.tailed es = true
  · obtain ⟨b, rfl⟩ : ∃ b, e = .body b := by
      cases e with
      | body b => exact ⟨b, rfl⟩
      | head _ => cases hp.1
      | fin => cases hp.1
      | fail _ => cases hp.1
    obtain ⟨q, a, rfl⟩ := Rq.tailed_split es hp.2
    have ha : a ≠ [] := hf a (by simp)
    have hal := Rq.bsum_mem _ a (List.mem_append_right q (List.mem_singleton.2 rfl))
    obtain ⟨hb1, hb2⟩ := hb b rfl
    obtain ⟨m, rfl⟩ : ∃ m, n = m + 1 := ⟨q.length, by rw [← hn]; simp⟩
    have h' : OutAt w S 47 5 ao cap (q.map Rq.Ev.d ++ [(Rq.Ev.body a).d]) := by have := h; unfold EvsAt at this; rwa [List.map_append] at this
    refine (add_merge w S ao cap m (q.map Rq.Ev.d) (Rq.Ev.body a).d (Rq.Ev.body b).d s h' hE.bytes.isB (by simpa using hn) (by omega) rfl rfl ha hb1 (by show a.length + b.length ≤ _; omega)).mono ?_
    rintro v w' ⟨rfl, hO, hT⟩
    have e1 := Rq.join_bodies (b := b) hj
    refine .mk ao cap (m + 1) rfl (by rw [e1]; simp at hn ⊢; omega) ?_ hT
    rw [e1]
    refine OutAt.mono (S := orNew S w) ?_ (fun k _ hk => ?_)
    · rw [List.map_append]; exact hO
    · rcases hk with hk | hk
      · exact Or.inl hk
      · exact Or.inr (Or.inr hk)
  · have e1 : Rq.join (es ++ [e]) = es ++ [e] := Rq.join_plain hj (fun hb => by
      cases ht : Rq.tailed es
      · rfl
      · exact absurd ⟨hb, ht⟩ hp)
    have fin : ∀ {v w'}, AddOut w S N (es.map Rq.Ev.d) e.d v w' → AddEv w S N es e v w' := by
      rintro v w' ⟨ao', cap', hv, hO, hT⟩
      refine .mk ao' cap' _ hv (by rw [e1]; simp) ?_ hT
      rw [e1]
      show OutAt _ _ _ _ _ _ _
      rw [List.map_append]; exact hO
    by_cases hk : e.d.kind = 2
    · cases hes : es with
      | nil =>
        subst hes
        subst hn
        obtain ⟨rfl, rfl⟩ := out_none h rfl
        exact (add_first w S N e.d s hE hk).mono (fun v w' k => fin k)
      | cons x r =>
        obtain ⟨m, rfl⟩ : ∃ m, n = m + 1 := ⟨n - 1, by rw [hes] at hn; simp at hn; omega⟩
        rw [← hes]
        refine (add_behind w S N ao cap m (es.map Rq.Ev.d) e.d s h hE hm (by omega) hk (fun y hy => ?_)).mono (fun v w' k => fin k)
        rw [List.getLast?_map] at hy
        obtain ⟨z, hz1, rfl⟩ := Option.map_eq_some_iff.1 hy
        intro hy2
        have hzb := (kind_body z).1 hy2
        have ht : Rq.tailed es = true := by
          have h1 : es = es.dropLast ++ [z] := by
            have hne : es ≠ [] := by rw [hes]; simp
            have := List.dropLast_concat_getLast hne
            rw [List.getLast?_eq_some_getLast hne] at hz1
            injection hz1 with hz1
            rw [← hz1]; exact this.symm
          rw [h1, Rq.tailed_snoc]; exact hzb
        exact hp ⟨(kind_body e).1 hk, ht⟩
    · subst hm
      exact (add_other w S N ao cap (es.map Rq.Ev.d) e.d s h hE (by omega) hk).mono (fun v w' k => fin k)
/-- an end -/
theorem add_fin (w : World) (S : Nat → Prop) (ao : Option Addr) (cap n : Nat) (es : List Rq.Ev) (h : EvsAt w S ao cap es) (hn : es.length = n) (hl : n ≤ 100000) (hj : Rq.Joined es) (hf : Rq.Full es) (hz : Rq.bsum es ≤ 100000) :
    Calls Tryz.prog 25 #[.slice ao n cap, .agg #[.int .i64 3, .string ⟨#[]⟩, .string ⟨#[]⟩, .int .i64 0, .slice none 0 0, .int .i64 0, .slice none 0 0, .string ⟨#[]⟩, .string ⟨#[]⟩, .string ⟨#[]⟩, .slice none 0 0, .int .i64 0]] w fun v w' => AddEv w S (fun _ => False) es .fin v w' :=
  addEv_any w S (fun _ => False) ao cap n es .fin ⟨none, 0, none, 0, none, 0⟩ h ⟨IsVS.nil _ _, IsBS.nil _ _, GrowB.nil _ _ _, fun _ _ e => e⟩ hn hl hj hf (fun a e => by cases e) hz
/-- a code -/
theorem add_fail (w : World) (S : Nat → Prop) (ao : Option Addr) (cap n c : Nat) (es : List Rq.Ev) (h : EvsAt w S ao cap es) (hn : es.length = n) (hl : n ≤ 100000) (hj : Rq.Joined es) (hf : Rq.Full es) (hz : Rq.bsum es ≤ 100000) :
    Calls Tryz.prog 25 #[.slice ao n cap, .agg #[.int .i64 4, .string ⟨#[]⟩, .string ⟨#[]⟩, .int .i64 0, .slice none 0 0, .int .i64 0, .slice none 0 0, .string ⟨#[]⟩, .string ⟨#[]⟩, .string ⟨#[]⟩, .slice none 0 0, .int .i64 (c : Int)]] w fun v w' => AddEv w S (fun _ => False) es (.fail c) v w' :=
  addEv_any w S (fun _ => False) ao cap n es (.fail c) ⟨none, 0, none, 0, none, 0⟩ h ⟨IsVS.nil _ _, IsBS.nil _ _, GrowB.nil _ _ _, fun _ _ e => e⟩ hn hl hj hf (fun a e => by cases e) hz
/-- bytes of a body -/
theorem add_body (w : World) (S N : Nat → Prop) (ao bo : Option Addr) (cap n bc m : Nat) (b : List UInt8) (es : List Rq.Ev) (h : EvsAt w S ao cap es) (hB : GrowB w N 5 bo bc b) (hb : b ≠ []) (hm : b.length = m) (hm2 : m ≤ 100000) (hN : ∀ k, S k → ¬ N k) (hn : es.length = n) (hl : n ≤ 100000) (hj : Rq.Joined es) (hf : Rq.Full es) (hz : Rq.bsum es ≤ 100000) :
    Calls Tryz.prog 25 #[.slice ao n cap, .agg #[.int .i64 2, .string ⟨#[]⟩, .string ⟨#[]⟩, .int .i64 0, .slice none 0 0, .int .i64 0, .slice bo m bc, .string ⟨#[]⟩, .string ⟨#[]⟩, .string ⟨#[]⟩, .slice none 0 0, .int .i64 0]] w fun v w' => AddEv w S N es (.body b) v w' := by
  subst hm
  exact addEv_any w S N ao cap n es (.body b) ⟨none, 0, bo, bc, none, 0⟩ h ⟨IsVS.nil _ _, IsBS.nil _ _, hB, hN⟩ hn hl hj hf (fun a e => by injection e with e; subst e; exact ⟨hb, hm2⟩) hz
/-- a head -/
theorem add_head (w : World) (S N : Nat → Prop) (ao fo : Option Addr) (cap n fc m : Nat) (hd : Rq.Hd) (es : List Rq.Ev) (h : EvsAt w S ao cap es) (hF : IsVS w N fo fc m (pairV (Rq.flT hd.fields))) (hm : hd.fields.length = m) (hN : ∀ k, S k → ¬ N k) (hn : es.length = n) (hl : n ≤ 100000) (hj : Rq.Joined es) (hf : Rq.Full es) (hz : Rq.bsum es ≤ 100000) :
    Calls Tryz.prog 25 #[.slice ao n cap, .agg #[.int .i64 1, .string ⟨hd.method.toArray⟩, .string ⟨hd.target.toArray⟩, .int .i64 (hd.minor : Int), .slice fo m fc, .int .i64 hd.length, .slice none 0 0, .string ⟨#[]⟩, .string ⟨#[]⟩, .string ⟨#[]⟩, .slice none 0 0, .int .i64 0]] w fun v w' => AddEv w S N es (.head hd) v w' := by
  have hm' : (Rq.flT hd.fields).length = m := by rw [Rq.flT_length]; exact hm
  subst hm'
  exact addEv_any w S N ao cap n es (.head hd) ⟨fo, fc, none, 0, none, 0⟩ h ⟨hF.mono (fun k _ e => ⟨e, by simp [lastB, Rq.Ev.d]⟩), IsBS.nil _ _, GrowB.nil _ _ _, hN⟩ hn hl hj hf (fun a e => by cases e) hz
end Go.Proofs.YtbcmlolaihnalacGreatDoor
