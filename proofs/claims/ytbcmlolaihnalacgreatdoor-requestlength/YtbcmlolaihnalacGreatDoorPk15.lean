/- Small texts, one behind the other: PlainRK, RqEv, RqBody, RqBodyB. -/
import Derived.Test.YtbcmlolaihnalacGreatDoorPk13
import Derived.Test.YtbcmlolaihnalacGreatDoorPk14
/- Plain laws of requests of a stream: how many events bytes bring, and how long their bodies are. -/
namespace Go.Proofs.YtbcmlolaihnalacGreatDoor.Rq

/-- how many bytes of bodies there are -/
def bsum : List Ev → Nat
  | [] => 0
  | .body a :: r => a.length + bsum r
  | _ :: r => bsum r
def Full (l : List Ev) : Prop := ∀ a, Ev.body a ∈ l → a ≠ []
theorem bsum_append : ∀ a b : List Ev, bsum (a ++ b) = bsum a + bsum b
  | [], b => by simp [bsum]
  | .body x :: r, b => by rw [List.cons_append, bsum, bsum, bsum_append r b]; omega
  | .head _ :: r, b => bsum_append r b
  | .fin :: r, b => bsum_append r b
  | .fail _ :: r, b => bsum_append r b
theorem bsum_mem : ∀ (l : List Ev) (a : List UInt8), Ev.body a ∈ l → a.length ≤ bsum l
  | .body x :: r, a, h => by
    rw [bsum]
    rcases List.mem_cons.1 h with h | h
    · injection h with h; subst h; omega
    · have := bsum_mem r a h; omega
  | .head _ :: r, a, h => by
    rcases List.mem_cons.1 h with h | h
    · cases h
    · exact bsum_mem r a h
  | .fin :: r, a, h => by
    rcases List.mem_cons.1 h with h | h
    · cases h
    · exact bsum_mem r a h
  | .fail _ :: r, a, h => by
    rcases List.mem_cons.1 h with h | h
    · cases h
    · exact bsum_mem r a h
theorem join_bsum : ∀ l : List Ev, bsum (join l) = bsum l
  | [] => rfl
  | .head _ :: r => by rw [join]; exact join_bsum r
  | .fin :: r => by rw [join]; exact join_bsum r
  | .fail _ :: r => by rw [join]; exact join_bsum r
  | .body a :: r => by
    have ih := join_bsum r
    rw [join]
    cases hj : join r with
    | nil => rw [hj] at ih; simp only [bsum] at ih ⊢; omega
    | cons e q =>
      rw [hj] at ih
      cases e with
      | body b => simp only [bsum, List.length_append] at ih ⊢; omega
      | head _ => simp only [bsum] at ih ⊢; omega
      | fin => simp only [bsum] at ih ⊢; omega
      | fail _ => simp only [bsum] at ih ⊢; omega
theorem join_length : ∀ l : List Ev, (join l).length ≤ l.length
  | [] => Nat.le_refl _
  | .head _ :: r => by rw [join, List.length_cons, List.length_cons]; have := join_length r; omega
  | .fin :: r => by rw [join, List.length_cons, List.length_cons]; have := join_length r; omega
  | .fail _ :: r => by rw [join, List.length_cons, List.length_cons]; have := join_length r; omega
  | .body a :: r => by
    have ih := join_length r
    rw [join]
    cases hj : join r with
    | nil => rw [hj] at ih; simp only [List.length_cons, List.length_nil] at ih ⊢; omega
    | cons e q =>
      rw [hj] at ih
      cases e <;> simp only [List.length_cons] at ih ⊢ <;> omega
theorem join_full : ∀ l : List Ev, Full l → Full (join l)
  | [], h => h
  | .head _ :: r, h => by
    have ih := join_full r (fun a ha => h a (List.mem_cons_of_mem _ ha))
    rw [join]; intro a ha
    rcases List.mem_cons.1 ha with ha | ha
    · cases ha
    · exact ih a ha
  | .fin :: r, h => by
    have ih := join_full r (fun a ha => h a (List.mem_cons_of_mem _ ha))
    rw [join]; intro a ha
    rcases List.mem_cons.1 ha with ha | ha
    · cases ha
    · exact ih a ha
  | .fail _ :: r, h => by
    have ih := join_full r (fun a ha => h a (List.mem_cons_of_mem _ ha))
    rw [join]; intro a ha
    rcases List.mem_cons.1 ha with ha | ha
    · cases ha
    · exact ih a ha
  | .body x :: r, h => by
    have ih := join_full r (fun a ha => h a (List.mem_cons_of_mem _ ha))
    have hx : x ≠ [] := h x (List.mem_cons_self ..)
    rw [join]
    cases hj : join r with
    | nil =>
      intro a ha
      simp at ha; subst ha; exact hx
    | cons e q =>
      rw [hj] at ih
      have hone : ∀ a, Ev.body a ∈ Ev.body x :: e :: q → a ≠ [] := fun a ha => by
        rcases List.mem_cons.1 ha with ha | ha
        · injection ha with ha; subst ha; exact hx
        · exact ih a ha
      cases e with
      | body b =>
        intro a ha
        rcases List.mem_cons.1 ha with ha | ha
        · injection ha with ha; subst ha; simp [hx]
        · exact ih a (List.mem_cons_of_mem _ ha)
      | head _ => exact hone
      | fin => exact hone
      | fail _ => exact hone
theorem full_append {a b : List Ev} (h : Full a) (k : Full b) : Full (a ++ b) := fun x hx => by
  rcases List.mem_append.1 hx with hx | hx
  · exact h x hx
  · exact k x hx
/-- what a line's end brings -/
theorem line_few (s : St) (t : List UInt8) : (line s t).2.length ≤ 2 ∧ bsum (line s t).2 = 0 ∧ Full (line s t).2 := by
  have hf : ∀ c, ([Ev.fail c] : List Ev).length ≤ 2 ∧ bsum [Ev.fail c] = 0 ∧ Full [Ev.fail c] := fun c => ⟨by simp, rfl, fun a ha => by simp at ha⟩
  have h0 : ([] : List Ev).length ≤ 2 ∧ bsum [] = 0 ∧ Full [] := ⟨by simp, rfl, fun a ha => by cases ha⟩
  unfold line
  split
  · split
    · exact h0
    · split
      · exact hf _
      · exact h0
  · split
    · split
      · exact hf _
      · split
        · exact ⟨by simp, rfl, fun a ha => by simp at ha⟩
        · split
          · exact ⟨by simp, rfl, fun a ha => by simp at ha⟩
          · exact ⟨by simp, rfl, fun a ha => by simp at ha⟩
    · split
      · exact hf _
      · split
        · exact hf _
        · exact h0
theorem next_few (s : St) (c : UInt8) : (next s c).2.length ≤ 2 ∧ bsum (next s c).2 ≤ 1 ∧ Full (next s c).2 := by
  have hf : ∀ c, ([Ev.fail c] : List Ev).length ≤ 2 ∧ bsum [Ev.fail c] ≤ 1 ∧ Full [Ev.fail c] := fun c => ⟨by simp, Nat.zero_le _, fun a ha => by simp at ha⟩
  have h0 : ([] : List Ev).length ≤ 2 ∧ bsum [] ≤ 1 ∧ Full [] := ⟨by simp, Nat.zero_le _, fun a ha => by cases ha⟩
  unfold next
  split
  · exact h0
  · split
    · split
      · exact ⟨by simp, by simp [bsum], fun a ha => by simp at ha; subst ha; simp⟩
      · exact ⟨by simp, by simp [bsum], fun a ha => by simp at ha; subst ha; simp⟩
    · split
      · split
        · exact hf _
        · split
          · exact ⟨by simp, Nat.zero_le _, fun a ha => by simp at ha⟩
          · have := Ck.out_len s.ck c
            unfold some_
            split
            · exact h0
            · rename_i hne
              exact ⟨by simp, by simp only [bsum]; omega, fun a ha => by simp at ha; subst ha; exact hne⟩
      · split
        · exact hf _
        · split
          · have := line_few { s with ln := Ln.start } (Ln.text s.ln c)
            exact ⟨this.1, by omega, this.2.2⟩
          · exact h0
theorem outs_few : ∀ (l : List UInt8) (s : St), (outs s l).length ≤ 2 * l.length ∧ bsum (outs s l) ≤ l.length ∧ Full (outs s l)
  | [], s => ⟨by simp [outs], by simp [outs, bsum], fun a ha => by cases ha⟩
  | c :: t, s => by
    have h1 := next_few s c
    have h2 := outs_few t (next s c).1
    rw [outs, List.length_append, bsum_append, List.length_cons]
    exact ⟨by omega, by omega, full_append h1.2.2 h2.2.2⟩
/-- joined: how many, how long -/
theorem fed_few (s : St) (l : List UInt8) : (join (outs s l)).length ≤ 2 * l.length ∧ bsum (join (outs s l)) ≤ l.length ∧ Full (join (outs s l)) ∧ Joined (join (outs s l)) := by
  have h := outs_few l s
  have hl := join_length (outs s l)
  exact ⟨by omega, by rw [join_bsum]; exact h.2.1, join_full _ h.2.2, joined_join _⟩
end Go.Proofs.YtbcmlolaihnalacGreatDoor.Rq

/- Events of requests in memory, and one more behind them: add, by what is joined. -/
namespace Go.Proofs.YtbcmlolaihnalacGreatDoor
open Go.RowKit

/-- an event as it lies in memory -/
def Rq.Ev.d : Rq.Ev → EvD
  | .head h => ⟨1, ⟨h.method.toArray⟩, ⟨h.target.toArray⟩, (h.minor : Int), Rq.flT h.fields, h.length, [], ⟨#[]⟩, ⟨#[]⟩, ⟨#[]⟩, [], 0⟩
  | .body b => ⟨2, ⟨#[]⟩, ⟨#[]⟩, 0, [], 0, b, ⟨#[]⟩, ⟨#[]⟩, ⟨#[]⟩, [], 0⟩
  | .fin => ⟨3, ⟨#[]⟩, ⟨#[]⟩, 0, [], 0, [], ⟨#[]⟩, ⟨#[]⟩, ⟨#[]⟩, [], 0⟩
  | .fail c => ⟨4, ⟨#[]⟩, ⟨#[]⟩, 0, [], 0, [], ⟨#[]⟩, ⟨#[]⟩, ⟨#[]⟩, [], (c : Int)⟩
abbrev EvsAt (w : World) (S : Nat → Prop) (ao : Option Addr) (cap : Nat) (es : List Rq.Ev) : Prop := OutAt w S 47 5 ao cap (es.map Rq.Ev.d)
/-- what add comes to -/
inductive AddEv (w : World) (S N : Nat → Prop) (es : List Rq.Ev) (e : Rq.Ev) (v : Ending) (w' : World) : Prop
  | mk (ao : Option Addr) (cap n : Nat) (hv : v = .returned (.slice ao n cap)) (hn : n = (Rq.join (es ++ [e])).length) (hO : EvsAt w' (fun k => S k ∨ N k ∨ w.heap.size ≤ k) ao cap (Rq.join (es ++ [e]))) (hT : Turns S w w')
theorem kind_body (e : Rq.Ev) : e.d.kind = 2 ↔ e.isBody = true := by cases e <;> simp [Rq.Ev.d, Rq.Ev.isBody]
theorem out_none {w : World} {S : Nat → Prop} {tE tb : Nat} {ao : Option Addr} {cap : Nat} {es : List EvD} (h : OutAt w S tE tb ao cap es) (he : es = []) : ao = none ∧ cap = 0 := by
  cases h with
  | bare => exact ⟨rfl, rfl⟩
  | laid q e s g cap own => simp at he
theorem addEv_any (w : World) (S N : Nat → Prop) (ao : Option Addr) (cap n : Nat) (es : List Rq.Ev) (e : Rq.Ev) (s : EvS) (h : EvsAt w S ao cap es) (hE : NewE w S N e.d s) (hn : es.length = n) (hl : n ≤ 100000) (hj : Rq.Joined es) (hf : Rq.Full es) (hb : ∀ a, e = .body a → a ≠ [] ∧ a.length ≤ 100000) (hz : Rq.bsum es ≤ 100000) :
    Calls Tryz.prog 25 #[.slice ao n cap, .agg #[.int .i64 e.d.kind, .string e.d.method, .string e.d.target, .int .i64 e.d.minor, .slice s.fo e.d.fields.length s.fcap, .int .i64 e.d.length, .slice s.bo e.d.bytes.length s.bcap, .string e.d.pname, .string e.d.pfile, .string e.d.ptype, .slice s.po e.d.pbytes.length s.pcap, .int .i64 e.d.code]] w fun v w' => AddEv w S N es e v w' := by
  have hm : (es.map Rq.Ev.d).length = n := by rw [List.length_map]; exact hn
  by_cases hp : e.isBody = true ∧ Rq.tailed es = true
  · obtain ⟨b, rfl⟩ : ∃ b, e = .body b := by
      cases e with
      | body b => exact ⟨b, rfl⟩
      | head _ => cases hp.1
      | fin => cases hp.1
      | fail _ => cases hp.1
    obtain ⟨q, a, rfl⟩ := Rq.tailed_split es hp.2
    have ha : a ≠ [] := hf a (by simp)
    have hal := Rq.bsum_mem _ a (List.mem_append_right q (List.mem_singleton.2 rfl))
    obtain ⟨hb1, hb2⟩ := hb b rfl
    obtain ⟨m, rfl⟩ : ∃ m, n = m + 1 := ⟨q.length, by rw [← hn]; simp⟩
    have h' : OutAt w S 47 5 ao cap (q.map Rq.Ev.d ++ [(Rq.Ev.body a).d]) := by have := h; unfold EvsAt at this; rwa [List.map_append] at this
    refine (add_merge w S ao cap m (q.map Rq.Ev.d) (Rq.Ev.body a).d (Rq.Ev.body b).d s h' hE.bytes.isB (by simpa using hn) (by omega) rfl rfl ha hb1 (by show a.length + b.length ≤ _; omega)).mono ?_
    rintro v w' ⟨rfl, hO, hT⟩
    have e1 := Rq.join_bodies (b := b) hj
    refine .mk ao cap (m + 1) rfl (by rw [e1]; simp at hn ⊢; omega) ?_ hT
    rw [e1]
    refine OutAt.mono (S := orNew S w) ?_ (fun k _ hk => ?_)
    · rw [List.map_append]; exact hO
    · rcases hk with hk | hk
      · exact Or.inl hk
      · exact Or.inr (Or.inr hk)
  · have e1 : Rq.join (es ++ [e]) = es ++ [e] := Rq.join_plain hj (fun hb => by
      cases ht : Rq.tailed es
      · rfl
      · exact absurd ⟨hb, ht⟩ hp)
    have fin : ∀ {v w'}, AddOut w S N (es.map Rq.Ev.d) e.d v w' → AddEv w S N es e v w' := by
      rintro v w' ⟨ao', cap', hv, hO, hT⟩
      refine .mk ao' cap' _ hv (by rw [e1]; simp) ?_ hT
      rw [e1]
      show OutAt _ _ _ _ _ _ _
      rw [List.map_append]; exact hO
    by_cases hk : e.d.kind = 2
    · cases hes : es with
      | nil =>
        subst hes
        subst hn
        obtain ⟨rfl, rfl⟩ := out_none h rfl
        exact (add_first w S N e.d s hE hk).mono (fun v w' k => fin k)
      | cons x r =>
        obtain ⟨m, rfl⟩ : ∃ m, n = m + 1 := ⟨n - 1, by rw [hes] at hn; simp at hn; omega⟩
        rw [← hes]
        refine (add_behind w S N ao cap m (es.map Rq.Ev.d) e.d s h hE hm (by omega) hk (fun y hy => ?_)).mono (fun v w' k => fin k)
        rw [List.getLast?_map] at hy
        obtain ⟨z, hz1, rfl⟩ := Option.map_eq_some_iff.1 hy
        intro hy2
        have hzb := (kind_body z).1 hy2
        have ht : Rq.tailed es = true := by
          have h1 : es = es.dropLast ++ [z] := by
            have hne : es ≠ [] := by rw [hes]; simp
            have := List.dropLast_concat_getLast hne
            rw [List.getLast?_eq_some_getLast hne] at hz1
            injection hz1 with hz1
            rw [← hz1]; exact this.symm
          rw [h1, Rq.tailed_snoc]; exact hzb
        exact hp ⟨(kind_body e).1 hk, ht⟩
    · subst hm
      exact (add_other w S N ao cap (es.map Rq.Ev.d) e.d s h hE (by omega) hk).mono (fun v w' k => fin k)
/-- an end -/
theorem add_fin (w : World) (S : Nat → Prop) (ao : Option Addr) (cap n : Nat) (es : List Rq.Ev) (h : EvsAt w S ao cap es) (hn : es.length = n) (hl : n ≤ 100000) (hj : Rq.Joined es) (hf : Rq.Full es) (hz : Rq.bsum es ≤ 100000) :
    Calls Tryz.prog 25 #[.slice ao n cap, .agg #[.int .i64 3, .string ⟨#[]⟩, .string ⟨#[]⟩, .int .i64 0, .slice none 0 0, .int .i64 0, .slice none 0 0, .string ⟨#[]⟩, .string ⟨#[]⟩, .string ⟨#[]⟩, .slice none 0 0, .int .i64 0]] w fun v w' => AddEv w S (fun _ => False) es .fin v w' :=
  addEv_any w S (fun _ => False) ao cap n es .fin ⟨none, 0, none, 0, none, 0⟩ h ⟨IsVS.nil _ _, IsBS.nil _ _, GrowB.nil _ _ _, fun _ _ e => e⟩ hn hl hj hf (fun a e => by cases e) hz
/-- a code -/
theorem add_fail (w : World) (S : Nat → Prop) (ao : Option Addr) (cap n c : Nat) (es : List Rq.Ev) (h : EvsAt w S ao cap es) (hn : es.length = n) (hl : n ≤ 100000) (hj : Rq.Joined es) (hf : Rq.Full es) (hz : Rq.bsum es ≤ 100000) :
    Calls Tryz.prog 25 #[.slice ao n cap, .agg #[.int .i64 4, .string ⟨#[]⟩, .string ⟨#[]⟩, .int .i64 0, .slice none 0 0, .int .i64 0, .slice none 0 0, .string ⟨#[]⟩, .string ⟨#[]⟩, .string ⟨#[]⟩, .slice none 0 0, .int .i64 (c : Int)]] w fun v w' => AddEv w S (fun _ => False) es (.fail c) v w' :=
  addEv_any w S (fun _ => False) ao cap n es (.fail c) ⟨none, 0, none, 0, none, 0⟩ h ⟨IsVS.nil _ _, IsBS.nil _ _, GrowB.nil _ _ _, fun _ _ e => e⟩ hn hl hj hf (fun a e => by cases e) hz
/-- bytes of a body -/
theorem add_body (w : World) (S N : Nat → Prop) (ao bo : Option Addr) (cap n bc m : Nat) (b : List UInt8) (es : List Rq.Ev) (h : EvsAt w S ao cap es) (hB : GrowB w N 5 bo bc b) (hb : b ≠ []) (hm : b.length = m) (hm2 : m ≤ 100000) (hN : ∀ k, S k → ¬ N k) (hn : es.length = n) (hl : n ≤ 100000) (hj : Rq.Joined es) (hf : Rq.Full es) (hz : Rq.bsum es ≤ 100000) :
    Calls Tryz.prog 25 #[.slice ao n cap, .agg #[.int .i64 2, .string ⟨#[]⟩, .string ⟨#[]⟩, .int .i64 0, .slice none 0 0, .int .i64 0, .slice bo m bc, .string ⟨#[]⟩, .string ⟨#[]⟩, .string ⟨#[]⟩, .slice none 0 0, .int .i64 0]] w fun v w' => AddEv w S N es (.body b) v w' := by
  subst hm
  exact addEv_any w S N ao cap n es (.body b) ⟨none, 0, bo, bc, none, 0⟩ h ⟨IsVS.nil _ _, IsBS.nil _ _, hB, hN⟩ hn hl hj hf (fun a e => by injection e with e; subst e; exact ⟨hb, hm2⟩) hz
/-- a head -/
theorem add_head (w : World) (S N : Nat → Prop) (ao fo : Option Addr) (cap n fc m : Nat) (hd : Rq.Hd) (es : List Rq.Ev) (h : EvsAt w S ao cap es) (hF : IsVS w N fo fc m (pairV (Rq.flT hd.fields))) (hm : hd.fields.length = m) (hN : ∀ k, S k → ¬ N k) (hn : es.length = n) (hl : n ≤ 100000) (hj : Rq.Joined es) (hf : Rq.Full es) (hz : Rq.bsum es ≤ 100000) :
    Calls Tryz.prog 25 #[.slice ao n cap, .agg #[.int .i64 1, .string ⟨hd.method.toArray⟩, .string ⟨hd.target.toArray⟩, .int .i64 (hd.minor : Int), .slice fo m fc, .int .i64 hd.length, .slice none 0 0, .string ⟨#[]⟩, .string ⟨#[]⟩, .string ⟨#[]⟩, .slice none 0 0, .int .i64 0]] w fun v w' => AddEv w S N es (.head hd) v w' := by
  have hm' : (Rq.flT hd.fields).length = m := by rw [Rq.flT_length]; exact hm
  subst hm'
  exact addEv_any w S N ao cap n es (.head hd) ⟨fo, fc, none, 0, none, 0⟩ h ⟨hF.mono (fun k _ e => ⟨e, by simp [lastB, Rq.Ev.d]⟩), IsBS.nil _ _, GrowB.nil _ _ _, hN⟩ hn hl hj hf (fun a e => by cases e) hz
end Go.Proofs.YtbcmlolaihnalacGreatDoor

/- Package request, walked: a head is given; what reads a body; one byte more of a body; a code. -/
namespace Go.Proofs.YtbcmlolaihnalacGreatDoor
open Go.RowKit

set_option maxHeartbeats 800000 in
/-- a byte of a chunk -/
theorem feedCk_own (w : World) (S : Nat → Prop) (g : Nat) (s : Ck.St) (c : UInt8) (h : CkAt w S g s) (hg : Ck.Good s) (h0 : s.code = 0) (h1 : s.ph = 1) :
    Calls Tryz.prog 142 #[.pointer (some ⟨g, 0, none⟩), .int .u8 c.toNat] w fun e w' => e = .returned (.tuple #[.slice (some ⟨w.heap.size, 0, none⟩) 1 1, .bool false, .int .i64 0]) ∧ CkAt w' S g (Ck.next s c) ∧ OwnB w' 0 5 (some ⟨w.heap.size, 0, none⟩) 1 [c] ∧ Turns S w w' := by
  have hp : Ck.pc s = 0 := Ck.pc_zero.2 ⟨h0, by omega⟩
  obtain ⟨gl, nx, lf, rm, fd, ln, r, hk⟩ := h
  obtain ⟨rfl, rfl, rfl, rfl, rfl⟩ := hk hp
  rw [hp] at r
  have hl := hg.left h1
  have hl2 := hg.left_le
  have elf : Ck.lf s = s.left := by unfold Ck.lf; rw [if_pos h1]
  rw [elf] at r
  have enx : Ck.nx s = 1 := by unfold Ck.nx; rw [if_neg (by omega), if_neg (by omega)]
  rw [enx] at r
  have c5 : w.cell? ⟨g, 5, none⟩ = some (.int .i64 0) := r.cell 5 (by decide)
  have c2 : w.cell? ⟨g, 2, none⟩ = some (.int .i64 (s.left : Int)) := r.cell 2 (by decide)
  have f2 : w.frozen? ⟨g, 2, none⟩ = false := r.frozen 2
  have t2 : decide ((s.left : Int) > 0) = true := decide_eq_true (by omega)
  have HR := Hid.mk' (r.left ((s.left : Int) - 1))
  have HT := Hid.mk' (r.turn 2 (.int .i64 ((s.left : Int) - 1)))
  have hn : Ck.next s c = { s with left := s.left - 1, ph := if s.left ≤ 1 then 2 else 1 } := by unfold Ck.next; rw [if_neg (fun e => e h0), if_neg (by omega), if_pos h1]
  have HN := Hid.mk' hn
  have HO : Hid (Ck.out s c = [c]) := by unfold Hid Ck.out; rw [if_pos ⟨h0, h1⟩]
  have HV : Hid (Ck.over s c = false) := by
    unfold Hid Ck.over
    rw [decide_eq_false_iff_not, hn]
    intro e
    have : (if s.left ≤ 1 then 2 else 1) = 4 := e.2.2.2
    split at this <;> omega
  have H0 := Hid.mk' h0; have HL := Hid.mk' hl
  clear r hk hn hg hp elf enx h0 h1 hl
  go_enter Tryz.func142, Tryz.ntmps142
  go_wp2
  go_ret3
  have hb : Below (w.setCell ⟨g, 2, none⟩ (.int .i64 ((s.left : Int) - 1))).heap.size (w.setCell ⟨g, 2, none⟩ (.int .i64 ((s.left : Int) - 1))) ((w.setCell ⟨g, 2, none⟩ (.int .i64 ((s.left : Int) - 1))).alloc (.cells #[.int .u8 (c.toNat : Int)] 5)) := (Below.refl _ _).alloc (Nat.le_refl _) _
  have h0 := H0.out
  have hl := HL.out
  have hz : (w.setCell ⟨g, 2, none⟩ (.int .i64 ((s.left : Int) - 1))).heap.size = w.heap.size := by simp
  refine ⟨by rw [← hz]; rfl, CkAt.of HN.out (HR.out.stay hb) ?_ (fun _ => ⟨rfl, ?_, ?_, rfl, rfl⟩), ?_, HT.out.trans (Turns.of_below hb) (fun _ e _ => e)⟩
  · rw [Ck.pc_zero (s := { s with left := s.left - 1, ph := if s.left ≤ 1 then 2 else 1 }) |>.2 ⟨h0, by show (if s.left ≤ 1 then 2 else 1) ≠ 4; split <;> omega⟩]
  · unfold Ck.nx
    simp only
    split <;> rfl
  · unfold Ck.lf
    simp only
    split
    · rw [if_neg (by omega)]; omega
    · rw [if_pos rfl]; omega
  · rw [← hz]
    exact World.ownsRow_lit _ _ 1 (Nat.zero_le _) (by decide) rfl

theorem give_out (w : World) (g : Nat) (lp hp bd : Value) (wh : Bool) (v0 v1 v2 v3 v4 : Value) (hP : PsAt w g lp hp wh bd 0) :
    (((((((((w.alloc (.cells #[.string ⟨#[]⟩, .string ⟨#[]⟩, .int .i64 0, .slice none 0 0, .int .i64 0] 36)).alloc (.cells #[v0, v1, v2, v3, v4] 36)).setCell ⟨g, 1, none⟩ (.pointer none)).setCell ⟨g, 2, none⟩ (.bool false)).setCell ⟨w.heap.size, 0, none⟩ v0).setCell ⟨w.heap.size, 1, none⟩ v1).setCell ⟨w.heap.size, 2, none⟩ v2).setCell ⟨w.heap.size, 3, none⟩ v3).setCell ⟨w.heap.size, 4, none⟩ v4).heap[w.heap.size]? = some (.cells #[v0, v1, v2, v3, v4] 36 (0, 0)) ∧ PsAt (((((((((w.alloc (.cells #[.string ⟨#[]⟩, .string ⟨#[]⟩, .int .i64 0, .slice none 0 0, .int .i64 0] 36)).alloc (.cells #[v0, v1, v2, v3, v4] 36)).setCell ⟨g, 1, none⟩ (.pointer none)).setCell ⟨g, 2, none⟩ (.bool false)).setCell ⟨w.heap.size, 0, none⟩ v0).setCell ⟨w.heap.size, 1, none⟩ v1).setCell ⟨w.heap.size, 2, none⟩ v2).setCell ⟨w.heap.size, 3, none⟩ v3).setCell ⟨w.heap.size, 4, none⟩ v4) g lp (.pointer none) false bd 0 ∧ Turns (fun k => k = g) w (((((((((w.alloc (.cells #[.string ⟨#[]⟩, .string ⟨#[]⟩, .int .i64 0, .slice none 0 0, .int .i64 0] 36)).alloc (.cells #[v0, v1, v2, v3, v4] 36)).setCell ⟨g, 1, none⟩ (.pointer none)).setCell ⟨g, 2, none⟩ (.bool false)).setCell ⟨w.heap.size, 0, none⟩ v0).setCell ⟨w.heap.size, 1, none⟩ v1).setCell ⟨w.heap.size, 2, none⟩ v2).setCell ⟨w.heap.size, 3, none⟩ v3).setCell ⟨w.heap.size, 4, none⟩ v4) := by
  have hlt := hP.lt
  have hb : Below w.heap.size w ((w.alloc (.cells #[.string ⟨#[]⟩, .string ⟨#[]⟩, .int .i64 0, .slice none 0 0, .int .i64 0] 36)).alloc (.cells #[v0, v1, v2, v3, v4] 36)) := ((Below.refl _ _).alloc (Nat.le_refl _) _).alloc (by simp) _
  have hr0 : ((w.alloc (.cells #[.string ⟨#[]⟩, .string ⟨#[]⟩, .int .i64 0, .slice none 0 0, .int .i64 0] 36)).alloc (.cells #[v0, v1, v2, v3, v4] 36)).heap[w.heap.size]? = some (.cells #[.string ⟨#[]⟩, .string ⟨#[]⟩, .int .i64 0, .slice none 0 0, .int .i64 0] 36 (0, 0)) := by
    rw [(World.grownBy_alloc _ _ none).block _ (by simp) (by simp), heap_alloc_new]
  have hP2 := ((hP.stay hb).s1 (.pointer none)).s2 false
  have hr1 := (heap_setCell_other (((w.alloc (.cells #[.string ⟨#[]⟩, .string ⟨#[]⟩, .int .i64 0, .slice none 0 0, .int .i64 0] 36)).alloc (.cells #[v0, v1, v2, v3, v4] 36)).setCell ⟨g, 1, none⟩ (.pointer none)) ⟨g, 2, none⟩ w.heap.size (.bool false) (by show w.heap.size ≠ g; omega)).trans ((heap_setCell_other ((w.alloc (.cells #[.string ⟨#[]⟩, .string ⟨#[]⟩, .int .i64 0, .slice none 0 0, .int .i64 0] 36)).alloc (.cells #[v0, v1, v2, v3, v4] 36)) ⟨g, 1, none⟩ w.heap.size (.pointer none) (by show w.heap.size ≠ g; omega)).trans hr0)
  have q0 := heap_setCell_same _ _ 0 _ _ v0 hr1
  have q1 := heap_setCell_same _ _ 1 _ _ v1 q0
  have q2 := heap_setCell_same _ _ 2 _ _ v2 q1
  have q3 := heap_setCell_same _ _ 3 _ _ v3 q2
  have q4 := heap_setCell_same _ _ 4 _ _ v4 q3
  have T0 : ∀ (W : World) (j : Nat) (v : Value), Turns (fun k => k = w.heap.size) W (W.setCell ⟨w.heap.size, j, none⟩ v) := fun W j v => Turns.setCell _ W _ _ rfl
  have TT := (T0 ((((w.alloc (.cells #[.string ⟨#[]⟩, .string ⟨#[]⟩, .int .i64 0, .slice none 0 0, .int .i64 0] 36)).alloc (.cells #[v0, v1, v2, v3, v4] 36)).setCell ⟨g, 1, none⟩ (.pointer none)).setCell ⟨g, 2, none⟩ (.bool false)) 0 v0).trans ((T0 _ 1 v1).trans ((T0 _ 2 v2).trans ((T0 _ 3 v3).trans (T0 _ 4 v4) (fun _ e _ => e)) (fun _ e _ => e)) (fun _ e _ => e)) (fun _ e _ => e)
  refine ⟨q4, hP2.turns TT (by omega), ?_⟩
  have TG : ∀ (W : World) (j : Nat) (v : Value), Turns (fun k => k = g) W (W.setCell ⟨g, j, none⟩ v) := fun W j v => Turns.setCell _ W _ _ rfl
  refine (Turns.of_below (S := fun k => k = g) hb).trans (((TG _ 1 _).trans (TG _ 2 _) (fun _ e _ => e)).mono (S' := fun k => k = g ∨ k = w.heap.size) (fun k e => Or.inl e) |>.trans (TT.mono (fun k e => Or.inr e)) (fun _ e _ => e)) (fun k e hk => ?_)
  rcases e with e | e
  · exact e
  · omega

set_option maxHeartbeats 1000000 in
theorem give_any (w : World) (g gh : Nat) (lp bd : Value) (S : Nat → Prop) (h : Rq.Hd) (hP : PsAt w g lp (.pointer (some ⟨gh, 0, none⟩)) true bd 0) (hH : HeadAt w S gh h) (hg : ¬ S g) :
    Calls Tryz.prog 39 #[.pointer (some ⟨g, 0, none⟩)] w fun e w' => ∃ fo fcap, e = .returned (.agg #[.string ⟨h.method.toArray⟩, .string ⟨h.target.toArray⟩, .int .i64 (h.minor : Int), .slice fo h.fields.length fcap, .int .i64 h.length]) ∧ PsAt w' g lp (.pointer none) false bd 0 ∧ IsVS w' S fo fcap h.fields.length (pairV (Rq.flT h.fields)) ∧ Turns (fun k => k = g) w w' := by
  have HPp := Hid.mk' hP
  obtain ⟨fo, fcap, hr, ho, h1, h2⟩ := hH
  have hV : IsVS w S fo fcap h.fields.length (pairV (Rq.flT h.fields)) := ⟨ho.isV, fun _ a e => h2 a e⟩
  have HV := Hid.mk' hV; have HGn := Hid.mk' hg
  have hb1 : Below w.heap.size w (w.alloc (.cells #[.string ⟨#[]⟩, .string ⟨#[]⟩, .int .i64 0, .slice none 0 0, .int .i64 0] 36)) := (Below.refl _ _).alloc (Nat.le_refl _) _
  have hrow := (hb1.block gh (Array.getElem?_eq_some_iff.1 hr).1).trans hr
  have c1 := (hP.stay hb1).c1
  have r0 := cell_of_row _ gh 0 _ _ _ hrow
  have r1 := cell_of_row _ gh 1 _ _ _ hrow
  have r2 := cell_of_row _ gh 2 _ _ _ hrow
  have r3 := cell_of_row _ gh 3 _ _ _ hrow
  have r4 := cell_of_row _ gh 4 _ _ _ hrow
  have hlt := hP.lt
  have n1 : g ≠ w.heap.size := by omega
  have n2 : g ≠ w.heap.size + 1 := by omega
  clear hrow hr ho h1 h2 hV hg hlt
  generalize (⟨h.method.toArray⟩ : ByteArray) = mm at *
  generalize (⟨h.target.toArray⟩ : ByteArray) = tt at *
  generalize h.fields.length = nn at *
  generalize h.length = ll at *
  have hb2 : Below w.heap.size w ((w.alloc (.cells #[.string ⟨#[]⟩, .string ⟨#[]⟩, .int .i64 0, .slice none 0 0, .int .i64 0] 36)).alloc (.cells #[.string mm, .string tt, .int .i64 (h.minor : Int), .slice fo nn fcap, .int .i64 ll] 36)) := hb1.trans ((Below.refl _ _).alloc hb1.size _)
  have p1 := (hP.stay hb2).c1
  have p2 := (hP.stay hb2).c2
  have pf1 := (hP.stay hb2).fz 1
  have pf2 := (hP.stay hb2).fz 2
  have HB2 := Hid.mk' hb2
  clear hP hb1 hb2
  go_enter Tryz.func39, Tryz.ntmps39
  go_wp2
  obtain ⟨o1, o2, o3⟩ := give_out w g lp _ bd _ (.string mm) (.string tt) (.int .i64 (h.minor : Int)) (.slice fo nn fcap) (.int .i64 ll) HPp.out
  revert o1 o2 o3
  generalize (((((((((w.alloc (.cells #[.string ⟨#[]⟩, .string ⟨#[]⟩, .int .i64 0, .slice none 0 0, .int .i64 0] 36)).alloc (.cells #[.string mm, .string tt, .int .i64 (h.minor : Int), .slice fo nn fcap, .int .i64 ll] 36)).setCell ⟨g, 1, none⟩ (.pointer none)).setCell ⟨g, 2, none⟩ (.bool false)).setCell ⟨w.heap.size, 0, none⟩ (.string mm)).setCell ⟨w.heap.size, 1, none⟩ (.string tt)).setCell ⟨w.heap.size, 2, none⟩ (.int .i64 (h.minor : Int))).setCell ⟨w.heap.size, 3, none⟩ (.slice fo nn fcap)).setCell ⟨w.heap.size, 4, none⟩ (.int .i64 ll)) = wf
  intro o1 o2 o3
  have z0 := cell_of_row wf w.heap.size 0 _ _ _ o1
  have z1 := cell_of_row wf w.heap.size 1 _ _ _ o1
  have z2 := cell_of_row wf w.heap.size 2 _ _ _ o1
  have z3 := cell_of_row wf w.heap.size 3 _ _ _ o1
  have z4 := cell_of_row wf w.heap.size 4 _ _ _ o1
  refine bodyPost_ret (v := .agg #[.string mm, .string tt, .int .i64 (h.minor : Int), .slice fo nn fcap, .int .i64 ll]) (by simp [results, Tryz.results39, go_sem, z0, z1, z2, z3, z4]) rfl ⟨fo, fcap, rfl, o2, ?_, o3⟩
  exact HV.out.turns o3 (fun k hk e => HGn.out (e ▸ hk))
end Go.Proofs.YtbcmlolaihnalacGreatDoor

/- Package request, walked: what reads a body; one byte more of a body of a known length; a code. -/
namespace Go.Proofs.YtbcmlolaihnalacGreatDoor
open Go.RowKit

/-- a parser that failed -/
theorem PsAt.failed {w : World} {g : Nat} {lp hp bd : Value} {wh : Bool} {code : Int} (h : PsAt w g lp hp wh bd code) (c : Int) :
    PsAt (((((w.setCell ⟨g, 0, none⟩ (.pointer none)).setCell ⟨g, 1, none⟩ (.pointer none)).setCell ⟨g, 2, none⟩ (.bool false)).setCell ⟨g, 3, none⟩ .nilIface).setCell ⟨g, 4, none⟩ (.int .i64 c)) g (.pointer none) (.pointer none) false .nilIface c ∧
    Turns (fun k => k = g) w (((((w.setCell ⟨g, 0, none⟩ (.pointer none)).setCell ⟨g, 1, none⟩ (.pointer none)).setCell ⟨g, 2, none⟩ (.bool false)).setCell ⟨g, 3, none⟩ .nilIface).setCell ⟨g, 4, none⟩ (.int .i64 c)) := by
  have TG : ∀ (W : World) (j : Nat) (v : Value), Turns (fun k => k = g) W (W.setCell ⟨g, j, none⟩ v) := fun W j v => Turns.setCell _ W _ _ rfl
  exact ⟨((((h.s0 _).s1 _).s2 _).s3 _).s4 _, (TG _ 0 _).trans ((TG _ 1 _).trans ((TG _ 2 _).trans ((TG _ 3 _).trans (TG _ 4 _) (fun _ e _ => e)) (fun _ e _ => e)) (fun _ e _ => e)) (fun _ e _ => e)⟩

/-- what a code comes to -/
inductive FailOut (w : World) (g : Nat) (So : Nat → Prop) (es : List Rq.Ev) (c : Nat) (e : Ending) (w' : World) : Prop
  | mk (ao : Option Addr) (cap n : Nat) (he : e = .returned (.slice ao n cap)) (hn : n = (Rq.join (es ++ [.fail c])).length) (hO : EvsAt w' (orNew So w) ao cap (Rq.join (es ++ [.fail c]))) (hP : PsAt w' g (.pointer none) (.pointer none) false .nilIface (c : Int)) (hT : Turns (fun k => So k ∨ k = g) w w')

set_option maxHeartbeats 1000000 in
theorem fail_any (w : World) (g : Nat) (lp hp bd : Value) (wh : Bool) (code : Int) (So : Nat → Prop) (ao : Option Addr) (cap n c : Nat) (es : List Rq.Ev) (hP : PsAt w g lp hp wh bd code) (h : EvsAt w So ao cap es) (hg : ¬ So g) (hn : es.length = n) (hl : n ≤ 100000) (hj : Rq.Joined es) (hf : Rq.Full es) (hz : Rq.bsum es ≤ 100000) :
    Calls Tryz.prog 38 #[.pointer (some ⟨g, 0, none⟩), .slice ao n cap, .int .i64 (c : Int)] w fun e w' => FailOut w g So es c e w' := by
  obtain ⟨hP5, hT5⟩ := hP.failed (c : Int)
  have HP5 := Hid.mk' hP5; have HT5 := Hid.mk' hT5
  have HA := Hid.mk' (add_fail _ So ao cap n c es (h.turns hT5 (fun k hk e => hg (e ▸ hk))) hn hl hj hf hz)
  have HGn := Hid.mk' hg
  have c0 := hP.c0; have c1 := hP.c1; have c2 := hP.c2; have c3 := hP.c3; have c4 := hP.c4
  have f0 := hP.fz 0; have f1 := hP.fz 1; have f2 := hP.fz 2; have f3 := hP.fz 3; have f4 := hP.fz 4
  clear hP h hg hn hj hf hz hP5 hT5
  go_enter Tryz.func38, Tryz.ntmps38
  go_wp2_with fail
  refine HA.out.mono ?_
  rintro e w1 ⟨ao1, cap1, n1, rfl, hn1, hO1, hT1⟩
  have HN1 := Hid.mk' hn1; have HO1 := Hid.mk' hO1; have HT1 := Hid.mk' hT1
  clear hn1 hO1 hT1
  go_wp2
  go_ret
  refine .mk ao1 cap1 n1 rfl HN1.out (HO1.out.mono (fun k _ e => ?_)) (HP5.out.turns HT1.out HGn.out) ?_
  · rcases e with e | e | e
    · exact Or.inl e
    · exact e.elim
    · exact Or.inr (by simpa using e)
  · exact (HT5.out.mono (fun k e => Or.inr e)).trans (HT1.out.mono (fun k e => Or.inl e)) (fun _ e _ => e)

theorem counted_out {w : World} {gb left : Nat} {v : Value} {c : UInt8} (hlt : gb < w.heap.size) (hr : (w.setCell ⟨gb, 0, none⟩ v).heap[gb]? = some (.cells #[.int .i64 (left : Int)] 109 (0, 0))) :
    ((w.setCell ⟨gb, 0, none⟩ v).alloc (.cells #[.int .u8 (c.toNat : Int)] 5)).drew.heap[gb]? = some (.cells #[.int .i64 (left : Int)] 109 (0, 0)) ∧ OwnB ((w.setCell ⟨gb, 0, none⟩ v).alloc (.cells #[.int .u8 (c.toNat : Int)] 5)).drew 0 5 (some ⟨w.heap.size, 0, none⟩) 1 [c] ∧ Turns (fun k => k = gb) w ((w.setCell ⟨gb, 0, none⟩ v).alloc (.cells #[.int .u8 (c.toNat : Int)] 5)).drew := by
  have hz : (w.setCell ⟨gb, 0, none⟩ v).heap.size = w.heap.size := by simp
  have hA : Below (w.setCell ⟨gb, 0, none⟩ v).heap.size (w.setCell ⟨gb, 0, none⟩ v) ((w.setCell ⟨gb, 0, none⟩ v).alloc (.cells #[.int .u8 (c.toNat : Int)] 5)).drew := ((Below.refl _ _).alloc (Nat.le_refl _) _).trans ⟨rfl, rfl, rfl, Nat.le_refl _, fun _ _ => rfl⟩
  refine ⟨(hA.block gb (by omega)).trans hr, ?_, (Turns.setCell (fun k => k = gb) w _ _ rfl).trans (Turns.of_below hA) (fun _ e _ => e)⟩
  have h1 : OwnB ((w.setCell ⟨gb, 0, none⟩ v).alloc (.cells #[.int .u8 (c.toNat : Int)] 5)) 0 5 (some ⟨w.heap.size, 0, none⟩) 1 [c] := by
    rw [← hz]; exact World.ownsRow_lit _ _ 1 (Nat.zero_le _) (by decide) rfl
  exact h1.stay (below_drew _ _)

set_option maxHeartbeats 1000000 in
/-- one byte more of a body of a known length -/
theorem counted_any (w : World) (gb left : Nat) (c : UInt8) (hr : w.heap[gb]? = some (.cells #[.int .i64 (left : Int)] 109 (0, 0))) (h0 : 0 < left) (h1 : left ≤ 4000) :
    Calls Tryz.prog 148 #[.pointer (some ⟨gb, 0, none⟩), .int .u8 c.toNat] w fun e w' => e = .returned (.tuple #[.slice (some ⟨w.heap.size, 0, none⟩) 1 1, .bool (decide (left ≤ 1)), .int .i64 0]) ∧ w'.heap[gb]? = some (.cells #[.int .i64 ((left - 1 : Nat) : Int)] 109 (0, 0)) ∧ OwnB w' 0 5 (some ⟨w.heap.size, 0, none⟩) 1 [c] ∧ Turns (fun k => k = gb) w w' := by
  have HR := Hid.mk' hr
  have hlt : gb < w.heap.size := (Array.getElem?_eq_some_iff.1 hr).1
  have c0 : w.cell? ⟨gb, 0, none⟩ = some (.int .i64 (left : Int)) := cell_of_row w gb 0 _ _ _ hr
  have f0 : w.frozen? ⟨gb, 0, none⟩ = false := frozen_of_row w gb 0 _ _ hr
  have tz : ((left : Int) - 1 == 0) = decide (left ≤ 1) := by rw [Bool.eq_iff_iff, beq_iff_eq, decide_eq_true_eq]; omega
  have hr1 := heap_setCell_same w gb 0 _ _ (.int .i64 ((left : Int) - 1)) hr
  have hr1' : (w.setCell ⟨gb, 0, none⟩ (.int .i64 ((left : Int) - 1))).heap[gb]? = some (.cells #[.int .i64 ((left - 1 : Nat) : Int)] 109 (0, 0)) := by
    rw [hr1]
    have : ((left - 1 : Nat) : Int) = (left : Int) - 1 := by omega
    rw [this]; rfl
  have HR1 := Hid.mk' hr1'
  have c1 : (w.setCell ⟨gb, 0, none⟩ (.int .i64 ((left : Int) - 1))).cell? ⟨gb, 0, none⟩ = some (.int .i64 ((left : Int) - 1)) := cell_of_row _ gb 0 _ _ _ hr1
  have c2 : ((w.setCell ⟨gb, 0, none⟩ (.int .i64 ((left : Int) - 1))).alloc (.cells #[.int .u8 (c.toNat : Int)] 5)).cell? ⟨gb, 0, none⟩ = some (.int .i64 ((left : Int) - 1)) := by
    rw [((Below.refl _ _).alloc (Nat.le_refl _) _).cell (p := ⟨gb, 0, none⟩) (by simpa using hlt)]; exact c1
  clear hr hr1 hr1'
  generalize decide (left ≤ 1) = dd at *
  go_enter Tryz.func148, Tryz.ntmps148
  go_wp2
  go_region
  all_goals (go_wp2; go_ret3; exact ⟨rfl, counted_out hlt HR1.out⟩)

/-- what reads a body -/
theorem bodyOf_count (w : World) (k : Nat) (hk : 0 < k) :
    Calls Tryz.prog 40 #[.int .i64 (k : Int)] w fun e w' => e = .returned (.iface 107 (.pointer (some ⟨w.heap.size, 0, none⟩))) ∧ w'.heap[w.heap.size]? = some (.cells #[.int .i64 (k : Int)] 109 (0, 0)) ∧ Below w.heap.size w w' := by
  have t1 : ((k : Int) == -1) = false := beq_eq_false_iff_ne.2 (by omega)
  go_enter Tryz.func40, Tryz.ntmps40
  go_wp2
  go_ret
  exact ⟨rfl, heap_alloc_new w _, (Below.refl _ _).alloc (Nat.le_refl _) _⟩
theorem bodyOf_chunks (w : World) :
    Calls Tryz.prog 40 #[.int .i64 (-1)] w fun e w' => ∃ g, e = .returned (.iface 105 (.pointer (some ⟨g, 0, none⟩))) ∧ CkAt w' (fun k => w.heap.size ≤ k) g Ck.start ∧ Below w.heap.size w w' := by
  go_enter Tryz.func40, Tryz.ntmps40
  go_wp2_with fail
  refine (newChunks_any w).mono ?_
  rintro e w1 ⟨g, rfl, hC, hB⟩
  have HC := Hid.mk' hC; have HB := Hid.mk' hB
  clear hC hB
  go_wp2
  go_ret
  exact ⟨g, rfl, HC.out, HB.out⟩
end Go.Proofs.YtbcmlolaihnalacGreatDoor
