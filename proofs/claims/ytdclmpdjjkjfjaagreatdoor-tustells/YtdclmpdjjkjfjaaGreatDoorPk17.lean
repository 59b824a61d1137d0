/- Small texts, one behind the other: SqA, SqB, SqC, SqD, SlClone, SqNew, RfHA, TsA. -/
import Derived.Test.YtdclmpdjjkjfjaaGreatDoorPk9
import Derived.Test.YtdclmpdjjkjfjaaGreatDoorPk1
import Derived.Test.YtdclmpdjjkjfjaaGreatDoorBase
import Derived.Test.YtdclmpdjjkjfjaaGreatDoorProg
import Derived.Deep.QuietTactic
import Derived.BigQuiet
import Derived.Test.YtdclmpdjjkjfjaaGreatDoorPk12
import Derived.Lib.SliceRun
import Derived.Test.YtdclmpdjjkjfjaaGreatDoorTuA
/- Package spool, walked: where an upload stands (find, by a closure), how many bytes all have. -/
namespace Go.Proofs.YtdclmpdjjkjfjaaGreatDoor
open Go.RowKit

/-- a spool at block g -/
abbrev SpoolAt (w : World) (S : Nat → Prop) (g : Nat) (s : Sp.St) : Prop := SpAt w S 88 67 5 g s
theorem findOneU_any (i z t id : Int) (m : ByteArray) (bo : Option Addr) (n bcap b : Nat) (w : World) (hc : w.cell? ⟨b, 0, none⟩ = some (.int .i64 id)) :
    Calls Tryz.prog 148 #[.agg #[.int .i64 i, .int .i64 z, .string m, .slice bo n bcap, .int .i64 t], .pointer (some ⟨b, 0, none⟩)] w fun e w' => e = .returned (.bool (decide (i = id))) ∧ w' = w.alloc (.cells #[.int .i64 i, .int .i64 z, .string m, .slice bo n bcap, .int .i64 t] 67) := by
  have hb : b < w.heap.size := World.block_lt_of_cell? w _ hc
  have hc' : (w.alloc (.cells #[.int .i64 i, .int .i64 z, .string m, .slice bo n bcap, .int .i64 t] 67)).cell? ⟨b, 0, none⟩ = some (.int .i64 id) := by
    rw [((Below.refl w.heap.size w).alloc (Nat.le_refl _) _).cell (p := ⟨b, 0, none⟩) hb]; exact hc
  go_enter Tryz.func148, Tryz.ntmps148
  go_wp2
  go_ret
  exact ⟨rfl, rfl⟩

set_option maxHeartbeats 1600000 in
theorem indexFuncU_any (l : List Sp.Up) (id : Int) (ao : Option Addr) (cap n b : Nat) (w : World) (hl : IsUps w ao cap l) (hcap : n ≤ cap) (hn : l.length = n) (hN : n ≤ 1000000) (hc : w.cell? ⟨b, 0, none⟩ = some (.int .i64 id)) :
    Calls Tryz.prog 147 #[.slice ao n cap, .func (.func 148) #[] #[.pointer (some ⟨b, 0, none⟩)]] w fun e w' => e = .returned (.int .i64 (Sp.pl l id)) ∧ Below w.heap.size w w' := by
  subst hn
  have H := Hid.mk' hl
  have HC := Hid.mk' hc
  have hb : b < w.heap.size := World.block_lt_of_cell? w _ hc
  clear hl hc
  go_enter Tryz.func147, Tryz.ntmps147
  go_wp2
  go_loopw [8] (fun t wr => ∃ k : Nat, k ≤ l.length ∧ t = .int .i64 k ∧ Below w.heap.size w wr ∧ ∀ p ∈ l.take k, p.id ≠ id) (fun t _ => l.length - (intOf t).toNat)
  case atStart => exact ⟨0, Nat.zero_le _, rfl, Below.refl _ _, fun p hp => by simp at hp⟩
  case round =>
    obtain ⟨k, hk, rfl, hB, hno⟩ := hrel
    have HB := Hid.mk' hB
    have HN := Hid.mk' hno
    clear hB hno
    by_cases hlt : k < l.length
    · obtain ⟨bb, oo, s, rfl, hc0, hc1, hc2, hc3, hc4, _⟩ := (H.out.stay HB.out).at_ k hlt
      have hlt' : (k : Int) < l.length := by omega
      have HT : Hid (l.take (k + 1) = l.take k ++ [l[k]]) := List.take_succ_eq_append_getElem hlt
      have HF := Hid.mk' (findOneU_any l[k].id l[k].size l[k].sent id l[k].note s.bo l[k].bytes.length s.bcap b wr (by rw [HB.out.cell (p := ⟨b, 0, none⟩) hb]; exact HC.out))
      have HB2 : Hid (Below w.heap.size w (wr.alloc (.cells #[.int .i64 l[k].id, .int .i64 l[k].size, .string l[k].note, .slice s.bo l[k].bytes.length s.bcap, .int .i64 l[k].sent] 67))) := HB.out.alloc HB.out.size _
      by_cases he : l[k].id = id
      · rw [decide_eq_true he] at HF
        have HR : Hid (Sp.pl l id = k) := Sp.pl_some (Sp.place_of l id k hlt he HN.out)
        clear he HN HT
        generalize l[k] = p at *
        go_wp2_with fail
        refine HF.out.mono ?_
        rintro e w1 ⟨rfl, hw⟩
        have HB3 : Hid (Below w.heap.size w w1) := by rw [hw]; exact HB2.out
        clear hw HB2
        go_wp2
        go_ret
        exact ⟨by rw [HR.out]; rfl, HB3.out⟩
      · rw [decide_eq_false he] at HF
        have HE := Hid.mk' he
        clear he
        generalize l[k] = p at *
        go_wp2_with fail
        refine HF.out.mono ?_
        rintro e w1 ⟨rfl, hw⟩
        have HB3 : Hid (Below w.heap.size w w1) := by rw [hw]; exact HB2.out
        clear hw HB2
        go_wp2
        go_roundw
        case rel =>
          refine ⟨k + 1, by omega, by go_num, HB3.out, fun r hr => ?_⟩
          rw [HT.out, List.mem_append] at hr
          rcases hr with hr | hr
          · exact HN.out r hr
          · rw [List.mem_singleton] at hr; subst hr; exact HE.out
        case measure => simp [intOf]; omega
    · obtain rfl : k = l.length := by omega
      have HR : Hid (Sp.pl l id = -1) := Sp.pl_none (Sp.place_no l id fun p hp => HN.out p (by rw [List.take_length]; exact hp))
      clear HN
      go_wp2
      go_ret
      exact ⟨by rw [HR.out]; rfl, HB.out⟩

set_option maxHeartbeats 800000 in
theorem findU_any (s : Sp.St) (S : Nat → Prop) (g : Nat) (id : Int) (w : World) (h : SpoolAt w S g s) (hN : s.l.length ≤ 1000) :
    Calls Tryz.prog 112 #[.pointer (some ⟨g, 0, none⟩), .int .i64 id] w fun e w' => e = .returned (.int .i64 (Sp.pl s.l id)) ∧ Below w.heap.size w w' := by
  have hB : Below w.heap.size w (w.alloc (.cells #[.int .i64 id] 3)) := (Below.refl _ _).alloc (Nat.le_refl _) _
  have hg := h.lt
  obtain ⟨ao, cap, hc0, hc1, hf0, hf1, hr, hS, hU⟩ := h.cells
  have HI := Hid.mk' (indexFuncU_any s.l id ao cap s.l.length w.heap.size (w.alloc (.cells #[.int .i64 id] 3)) (hU.isUps.stay hB) hU.cap_ rfl (by omega) (World.cell?_alloc_mark w _ _ _ 0))
  have hc : (w.alloc (.cells #[.int .i64 id] 3)).cell? ⟨g, 0, none⟩ = some (.slice ao s.l.length cap) := by rw [hB.cell (p := ⟨g, 0, none⟩) hg]; exact hc0
  have HB := Hid.mk' hB
  have hmf : ∀ (fn : Fn) (first cap : Array Value) (w : World), (Instr.makeFunc fn first cap).run Tryz.prog w = .ok (.func fn first cap) w := fun _ _ _ _ => rfl
  clear h hB hU hc0 hc1 hf0 hf1 hr hS
  generalize s.l = l at *
  go_enter Tryz.func112, Tryz.ntmps112
  go_wp2_with fail
  refine HI.out.mono ?_
  rintro e w1 ⟨rfl, hb⟩
  have HB1 := Hid.mk' (then_ HB.out hb)
  clear hb
  go_wp2
  go_ret
  exact ⟨rfl, HB1.out⟩

set_option maxHeartbeats 800000 in
theorem usedU_any (s : Sp.St) (S : Nat → Prop) (g : Nat) (w : World) (h : SpoolAt w S g s) (hN : s.l.length ≤ 1000) (hQ : Sp.used s.l ≤ 1000000) :
    Calls Tryz.prog 135 #[.pointer (some ⟨g, 0, none⟩)] w fun e w' => e = .returned (.int .i64 (Sp.used s.l)) ∧ Below w.heap.size w w' := by
  obtain ⟨ao, cap, hc0, hc1, hf0, hf1, hr, hS, hU⟩ := h.cells
  have H := Hid.mk' hU.isUps
  have hcap := hU.cap_
  clear h hU hc1 hf0 hf1 hr hS
  generalize s.l = l at *
  go_enter Tryz.func135, Tryz.ntmps135
  go_wp2
  go_loopw [3, 11] (fun v t wr => ∃ k : Nat, k ≤ l.length ∧ t = .int .i64 k ∧ v = .int .i64 (Sp.used (l.take k) : Int) ∧ Below w.heap.size w wr) (fun _ t _ => l.length - (intOf t).toNat)
  case atStart => exact ⟨0, Nat.zero_le _, rfl, rfl, Below.refl _ _⟩
  case round =>
    obtain ⟨k, hk, rfl, rfl, hB⟩ := hrel
    have HB := Hid.mk' hB
    clear hB
    have hu := Sp.used_le l k
    by_cases hlt : k < l.length
    · obtain ⟨bb, oo, s, rfl, hc0, hc1, hc2, hc3, hc4, _⟩ := (H.out.stay HB.out).at_ k hlt
      have hlt' : (k : Int) < l.length := by omega
      have HT : Hid (Sp.used (l.take (k + 1)) = Sp.used (l.take k) + l[k].bytes.length) := Sp.used_take l k hlt
      have hone := Sp.used_one l k hlt
      have HB2 : Hid (∀ ob, Below w.heap.size w (wr.alloc ob)) := fun ob => HB.out.alloc HB.out.size _
      generalize l[k] = p at *
      generalize Sp.used (l.take k) = q at *
      go_wp2
      go_roundw
      case rel =>
        exact ⟨k + 1, by omega, by go_num, by rw [HT.out]; go_num, HB2.out _⟩
      case measure => simp [intOf]; omega
    · obtain rfl : k = l.length := by omega
      go_wp2
      go_ret
      exact ⟨by rw [List.take_length]; rfl, HB.out⟩
end Go.Proofs.YtdclmpdjjkjfjaaGreatDoor

/- Package spool, walked: a step at an upload (change, by a closure); End, Begin. -/
namespace Go.Proofs.YtdclmpdjjkjfjaaGreatDoor
open Go.RowKit

theorem below_drewsN (w : World) (n : Nat) : Below w.heap.size w (w.drewN n) := ⟨rfl, rfl, rfl, Nat.le_refl _, fun _ _ => rfl⟩
/-- what a step answered, and what became of the object -/
structure Did (S : Nat → Prop) (tO : Nat) (w : World) (g : Nat) (r : Sp.St × Nat) (e : Ending) (w' : World) : Prop where
  ret : e = .returned (.int .i64 (r.2 : Int))
  at_ : SpAt w' (orNew S w) tO 67 5 g r.1
  turns : Turns S w w'
/-- where an object's uploads lie -/
def RowAt (w : World) (g gu n : Nat) : Prop := ∃ cap, n ≤ cap ∧ w.cell? ⟨g, 0, none⟩ = some (.slice (some ⟨gu, 0, none⟩) n cap)
section
variable {w w' : World} {S : Nat → Prop} {tO g gu i : Nat} {s : Sp.St}
/-- a step that changes nothing -/
theorem Did.none_ {c : Nat} (h : SpAt w S tO 67 5 g s) (hb : Below w.heap.size w w') {r : Sp.St × Nat} (hr : r = (s, c)) : Did S tO w g r (.returned (.int .i64 (c : Int))) w' := by
  subst hr
  exact ⟨rfl, (h.stay hb).mono (fun k _ e => Or.inl e), Turns.of_below hb⟩
/-- a field turned in its place -/
theorem Did.put {j : Nat} {v : Value} {u : Sp.Up} (h : SpAt w S tO 67 5 g s) (hp : RowAt w g gu s.l.length) (hi : i < s.l.length) (hj : j < 5) (hv : ∀ q, (upC s.l[i] q).set j v = upC u q) (hb : u.bytes = s.l[i].bytes) {r : Sp.St × Nat} (hr : r = (⟨s.l.set i u, s.last⟩, 0)) : Did S tO w g r (.returned (.int .i64 0)) (w.setCell ⟨gu, i * 5 + j, none⟩ v) := by
  subst hr
  obtain ⟨ao, cap, c0, c1, f0, f1, hg, hS, hU⟩ := h.cells
  obtain ⟨cap', hcap', hc⟩ := hp
  rw [c0] at hc
  injection hc with hc
  injection hc with ha _ _
  subst ha
  obtain ⟨hU2, hT⟩ := hU.put hi hj hv hb
  obtain ⟨g2, e2, hS2, _, _⟩ := hU.at_.row i hi
  injection e2 with e2; injection e2 with e2; subst e2
  have hT' : Turns S w (w.setCell ⟨gu, i * 5 + j, none⟩ v) := hT.mono (fun k e => by subst e; exact hS2.1)
  refine ⟨rfl, ⟨some ⟨gu, 0, none⟩, cap, ?_, Or.inl hS, ?_⟩, hT'⟩
  · have := hT.row hg (fun e => hS2.2 e.symm)
    simpa using this
  · exact hU2.mono (fun k _ e => ⟨Or.inl e.1, e.2⟩)
theorem Did.from_ {w1 : World} {r : Sp.St × Nat} {e : Ending} (hb : Below w.heap.size w w1) (h : Did S tO w1 g r e w') : Did S tO w g r e w' := by
  have hsz := hb.size
  refine ⟨h.ret, h.at_.mono (fun k _ e => ?_), (Turns.of_below hb).trans h.turns (fun _ e _ => e)⟩
  rcases e with e | e
  · exact Or.inl e
  · exact Or.inr (by omega)
theorem RowAt.stay {n : Nat} (h : RowAt w g gu n) (hb : Below w.heap.size w w') : RowAt w' g gu n := by
  obtain ⟨cap, h1, h2⟩ := h
  exact ⟨cap, h1, by rw [hb.cell (World.block_lt_of_cell? w _ h2)]; exact h2⟩
theorem RowAt.of (h : SpAt w S tO 67 5 g s) (hi : i < s.l.length) : ∃ gu, RowAt w g gu s.l.length := by
  obtain ⟨ao, cap, c0, c1, f0, f1, hg, hS, hU⟩ := h.cells
  obtain ⟨g2, rfl, _⟩ := hU.at_.row i hi
  exact ⟨g2, cap, hU.cap_, c0⟩
/-- an upload's cells -/
theorem RowAt.up (h : SpAt w S tO 67 5 g s) (hp : RowAt w g gu s.l.length) (hi : i < s.l.length) : ∃ q : UpS, w.cell? ⟨gu, i * 5, none⟩ = some (.int .i64 s.l[i].id) ∧ w.cell? ⟨gu, i * 5 + 1, none⟩ = some (.int .i64 s.l[i].size) ∧ w.cell? ⟨gu, i * 5 + 2, none⟩ = some (.string s.l[i].note) ∧ w.cell? ⟨gu, i * 5 + 3, none⟩ = some (.slice q.bo s.l[i].bytes.length q.bcap) ∧ w.cell? ⟨gu, i * 5 + 4, none⟩ = some (.int .i64 s.l[i].sent) ∧ (∀ j, w.frozen? ⟨gu, j, none⟩ = false) ∧ IsB w q.bo q.bcap s.l[i].bytes := by
  obtain ⟨ao, cap, c0, c1, f0, f1, hg, hS, hU⟩ := h.cells
  obtain ⟨cap', hcap', hc⟩ := hp
  rw [c0] at hc
  injection hc with hc
  injection hc with ha _ _
  subst ha
  obtain ⟨g2, q, e2, _, _, h0, h1, h2, h3, h4, hf, hG, _⟩ := hU.lies i hi
  injection e2 with e2; injection e2 with e2; subst e2
  exact ⟨q, h0, h1, h2, h3, h4, hf, hG.isB⟩
end
set_option maxHeartbeats 800000 in
theorem endOne_any (s : Sp.St) (S : Nat → Prop) (g gu i : Nat) (w : World) (h : SpoolAt w S g s) (hp : RowAt w g gu s.l.length) (hi : i < s.l.length) :
    Calls Tryz.prog 140 #[.pointer (some ⟨gu, i * 5, none⟩)] w (Did S 88 w g (Sp.endF s i s.l[i])) := by
  obtain ⟨q, h0, h1, h2, h3, h4, hf, hB⟩ := RowAt.up h hp hi
  have hf4 := hf (i * 5 + 4)
  by_cases hs : s.l[i].sent = 1
  · have HR : Hid (∀ W, W = w.setCell ⟨gu, i * 5 + 4, none⟩ (.int .i64 2) → Did S 88 w g (Sp.endF s i s.l[i]) (.returned (.int .i64 0)) W) := fun W hW => by
      rw [hW]
      exact Did.put (u := { s.l[i] with sent := 2 }) h hp hi (by decide) (fun q => rfl) rfl (by unfold Sp.endF; rw [if_neg (by simpa using hs)])
    rw [hs] at h4
    clear h hp hf h0 h1 h2 h3 hB
    generalize s.l[i] = u at *
    clear hs
    go_enter Tryz.func140, Tryz.ntmps140
    go_wp2
    go_ret
    exact HR.out _ rfl
  · have HR : Hid (Did S 88 w g (Sp.endF s i s.l[i]) (.returned (.int .i64 (19 : Nat))) w) := Did.none_ h (Below.refl _ _) (by unfold Sp.endF; rw [if_pos (by simpa using hs)])
    clear h hp hf h0 h1 h2 h3 hB
    generalize s.l[i] = u at *
    go_enter Tryz.func140, Tryz.ntmps140
    go_wp2
    go_ret
    exact HR.out
end Go.Proofs.YtdclmpdjjkjfjaaGreatDoor

/- Package spool, walked: a step at an upload, by each closure that takes one. -/
namespace Go.Proofs.YtdclmpdjjkjfjaaGreatDoor
open Go.RowKit

set_option maxRecDepth 100000 in
set_option maxHeartbeats 800000 in
theorem change_end (s : Sp.St) (S : Nat → Prop) (g : Nat) (id : Int) (w : World) (h : SpoolAt w S g s) (hN : s.l.length ≤ 1000) (F : Nat → Sp.Up → Sp.St × Nat)
    (hF : ∀ w1 i gu (hi : i < s.l.length), Below w.heap.size w w1 → SpoolAt w1 S g s → RowAt w1 g gu s.l.length → Calls Tryz.prog 140 #[.pointer (some ⟨gu, i * 5, none⟩)] w1 (Did S 88 w1 g (F i s.l[i]))) :
    Calls Tryz.prog 132 #[.pointer (some ⟨g, 0, none⟩), .int .i64 id, .func (.func 140) #[] #[]] w (Did S 88 w g (Sp.atUp s id F)) := by
  have HI := Hid.mk' (findU_any s S g id w h hN)
  have HA := Hid.mk' h
  have HF := Hid.mk' hF
  clear h hF
  cases hp : Sp.place s.l id with
  | none =>
    rw [Sp.pl_none hp] at HI
    have HR : Hid (∀ W, Below w.heap.size w W → Did S 88 w g (Sp.atUp s id F) (.returned (.int .i64 (10 : Nat))) W) := fun W hb => Did.none_ HA.out hb (Sp.atUp_none hp)
    clear hp
    go_enter Tryz.func132, Tryz.ntmps132
    go_wp2_with fail
    refine HI.out.mono ?_
    rintro e w1 ⟨rfl, hb⟩
    have HB := Hid.mk' hb
    clear hb
    go_wp2
    go_ret
    exact HR.out _ HB.out
  | some i =>
    rw [Sp.pl_some hp] at HI
    have hi := Sp.place_lt hp
    have hat : Sp.atUp s id F = F i (s.l[i]'hi) := Sp.atUp_some hp
    clear hp
    have HT := Hid.mk' hat
    clear hat
    go_enter Tryz.func132, Tryz.ntmps132
    go_wp2_with fail
    refine HI.out.mono ?_
    rintro e w1 ⟨rfl, hb⟩
    have h1 := HA.out.stay hb
    obtain ⟨gu, hgu⟩ := RowAt.of h1 hi
    have HC := Hid.mk' (HF.out w1 i gu hi hb h1 hgu)
    have HB := Hid.mk' hb
    obtain ⟨cap, hcap, hc⟩ := hgu
    have hi' : (i : Int) < s.l.length := by omega
    have HD : Hid (∀ e w2, Did S 88 w1 g (F i s.l[i]) e w2 → Did S 88 w g (Sp.atUp s id F) e w2 ∧ ∃ c : Nat, e = .returned (.int .i64 (c : Int))) := fun e w2 hd => by
      have hsz := hb.size
      refine ⟨⟨by rw [HT.out]; exact hd.ret, ?_, (Turns.of_below hb).trans hd.turns (fun _ e _ => e)⟩, _, hd.ret⟩
      rw [HT.out]
      refine hd.at_.mono (fun k _ e => ?_)
      rcases e with e | e
      · exact Or.inl e
      · exact Or.inr (by omega)
    clear hb h1 HT HA HF HI
    generalize F i s.l[i] = r at *
    generalize Sp.atUp s id F = r2 at *
    generalize s.l.length = n at *
    go_wp2_with fail
    refine HC.out.mono ?_
    intro e w2 hd
    obtain ⟨hd2, c, rfl⟩ := HD.out e w2 hd
    have HD2 := Hid.mk' hd2
    clear hd hd2 HD
    go_wp2
    go_ret
    exact HD2.out
set_option maxRecDepth 100000 in
set_option maxHeartbeats 800000 in
theorem change_beg (s : Sp.St) (S : Nat → Prop) (g : Nat) (id : Int) (w : World) (h : SpoolAt w S g s) (hN : s.l.length ≤ 1000) (F : Nat → Sp.Up → Sp.St × Nat)
    (hF : ∀ w1 i gu (hi : i < s.l.length), Below w.heap.size w w1 → SpoolAt w1 S g s → RowAt w1 g gu s.l.length → Calls Tryz.prog 138 #[.pointer (some ⟨gu, i * 5, none⟩)] w1 (Did S 88 w1 g (F i s.l[i]))) :
    Calls Tryz.prog 132 #[.pointer (some ⟨g, 0, none⟩), .int .i64 id, .func (.func 138) #[] #[]] w (Did S 88 w g (Sp.atUp s id F)) := by
  have HI := Hid.mk' (findU_any s S g id w h hN)
  have HA := Hid.mk' h
  have HF := Hid.mk' hF
  clear h hF
  cases hp : Sp.place s.l id with
  | none =>
    rw [Sp.pl_none hp] at HI
    have HR : Hid (∀ W, Below w.heap.size w W → Did S 88 w g (Sp.atUp s id F) (.returned (.int .i64 (10 : Nat))) W) := fun W hb => Did.none_ HA.out hb (Sp.atUp_none hp)
    clear hp
    go_enter Tryz.func132, Tryz.ntmps132
    go_wp2_with fail
    refine HI.out.mono ?_
    rintro e w1 ⟨rfl, hb⟩
    have HB := Hid.mk' hb
    clear hb
    go_wp2
    go_ret
    exact HR.out _ HB.out
  | some i =>
    rw [Sp.pl_some hp] at HI
    have hi := Sp.place_lt hp
    have hat : Sp.atUp s id F = F i (s.l[i]'hi) := Sp.atUp_some hp
    clear hp
    have HT := Hid.mk' hat
    clear hat
    go_enter Tryz.func132, Tryz.ntmps132
    go_wp2_with fail
    refine HI.out.mono ?_
    rintro e w1 ⟨rfl, hb⟩
    have h1 := HA.out.stay hb
    obtain ⟨gu, hgu⟩ := RowAt.of h1 hi
    have HC := Hid.mk' (HF.out w1 i gu hi hb h1 hgu)
    have HB := Hid.mk' hb
    obtain ⟨cap, hcap, hc⟩ := hgu
    have hi' : (i : Int) < s.l.length := by omega
    have HD : Hid (∀ e w2, Did S 88 w1 g (F i s.l[i]) e w2 → Did S 88 w g (Sp.atUp s id F) e w2 ∧ ∃ c : Nat, e = .returned (.int .i64 (c : Int))) := fun e w2 hd => by
      have hsz := hb.size
      refine ⟨⟨by rw [HT.out]; exact hd.ret, ?_, (Turns.of_below hb).trans hd.turns (fun _ e _ => e)⟩, _, hd.ret⟩
      rw [HT.out]
      refine hd.at_.mono (fun k _ e => ?_)
      rcases e with e | e
      · exact Or.inl e
      · exact Or.inr (by omega)
    clear hb h1 HT HA HF HI
    generalize F i s.l[i] = r at *
    generalize Sp.atUp s id F = r2 at *
    generalize s.l.length = n at *
    go_wp2_with fail
    refine HC.out.mono ?_
    intro e w2 hd
    obtain ⟨hd2, c, rfl⟩ := HD.out e w2 hd
    have HD2 := Hid.mk' hd2
    clear hd hd2 HD
    go_wp2
    go_ret
    exact HD2.out
set_option maxRecDepth 100000 in
set_option maxHeartbeats 800000 in
theorem change_dec (s : Sp.St) (S : Nat → Prop) (g : Nat) (id : Int) (w : World) (h : SpoolAt w S g s) (hN : s.l.length ≤ 1000) (b1 : Nat) (F : Nat → Sp.Up → Sp.St × Nat)
    (hF : ∀ w1 i gu (hi : i < s.l.length), Below w.heap.size w w1 → SpoolAt w1 S g s → RowAt w1 g gu s.l.length → Calls Tryz.prog 136 #[.pointer (some ⟨gu, i * 5, none⟩), .pointer (some ⟨b1, 0, none⟩)] w1 (Did S 88 w1 g (F i s.l[i]))) :
    Calls Tryz.prog 132 #[.pointer (some ⟨g, 0, none⟩), .int .i64 id, .func (.func 136) #[] #[.pointer (some ⟨b1, 0, none⟩)]] w (Did S 88 w g (Sp.atUp s id F)) := by
  have HI := Hid.mk' (findU_any s S g id w h hN)
  have HA := Hid.mk' h
  have HF := Hid.mk' hF
  clear h hF
  cases hp : Sp.place s.l id with
  | none =>
    rw [Sp.pl_none hp] at HI
    have HR : Hid (∀ W, Below w.heap.size w W → Did S 88 w g (Sp.atUp s id F) (.returned (.int .i64 (10 : Nat))) W) := fun W hb => Did.none_ HA.out hb (Sp.atUp_none hp)
    clear hp
    go_enter Tryz.func132, Tryz.ntmps132
    go_wp2_with fail
    refine HI.out.mono ?_
    rintro e w1 ⟨rfl, hb⟩
    have HB := Hid.mk' hb
    clear hb
    go_wp2
    go_ret
    exact HR.out _ HB.out
  | some i =>
    rw [Sp.pl_some hp] at HI
    have hi := Sp.place_lt hp
    have hat : Sp.atUp s id F = F i (s.l[i]'hi) := Sp.atUp_some hp
    clear hp
    have HT := Hid.mk' hat
    clear hat
    go_enter Tryz.func132, Tryz.ntmps132
    go_wp2_with fail
    refine HI.out.mono ?_
    rintro e w1 ⟨rfl, hb⟩
    have h1 := HA.out.stay hb
    obtain ⟨gu, hgu⟩ := RowAt.of h1 hi
    have HC := Hid.mk' (HF.out w1 i gu hi hb h1 hgu)
    have HB := Hid.mk' hb
    obtain ⟨cap, hcap, hc⟩ := hgu
    have hi' : (i : Int) < s.l.length := by omega
    have HD : Hid (∀ e w2, Did S 88 w1 g (F i s.l[i]) e w2 → Did S 88 w g (Sp.atUp s id F) e w2 ∧ ∃ c : Nat, e = .returned (.int .i64 (c : Int))) := fun e w2 hd => by
      have hsz := hb.size
      refine ⟨⟨by rw [HT.out]; exact hd.ret, ?_, (Turns.of_below hb).trans hd.turns (fun _ e _ => e)⟩, _, hd.ret⟩
      rw [HT.out]
      refine hd.at_.mono (fun k _ e => ?_)
      rcases e with e | e
      · exact Or.inl e
      · exact Or.inr (by omega)
    clear hb h1 HT HA HF HI
    generalize F i s.l[i] = r at *
    generalize Sp.atUp s id F = r2 at *
    generalize s.l.length = n at *
    go_wp2_with fail
    refine HC.out.mono ?_
    intro e w2 hd
    obtain ⟨hd2, c, rfl⟩ := HD.out e w2 hd
    have HD2 := Hid.mk' hd2
    clear hd hd2 HD
    go_wp2
    go_ret
    exact HD2.out
set_option maxRecDepth 100000 in
set_option maxHeartbeats 800000 in
theorem change_app (s : Sp.St) (S : Nat → Prop) (g : Nat) (id : Int) (w : World) (h : SpoolAt w S g s) (hN : s.l.length ≤ 1000) (b1 b2 b3 : Nat) (F : Nat → Sp.Up → Sp.St × Nat)
    (hF : ∀ w1 i gu (hi : i < s.l.length), Below w.heap.size w w1 → SpoolAt w1 S g s → RowAt w1 g gu s.l.length → Calls Tryz.prog 133 #[.pointer (some ⟨gu, i * 5, none⟩), .pointer (some ⟨b1, 0, none⟩), .pointer (some ⟨b2, 0, none⟩), .pointer (some ⟨b3, 0, none⟩)] w1 (Did S 88 w1 g (F i s.l[i]))) :
    Calls Tryz.prog 132 #[.pointer (some ⟨g, 0, none⟩), .int .i64 id, .func (.func 133) #[] #[.pointer (some ⟨b1, 0, none⟩), .pointer (some ⟨b2, 0, none⟩), .pointer (some ⟨b3, 0, none⟩)]] w (Did S 88 w g (Sp.atUp s id F)) := by
  have HI := Hid.mk' (findU_any s S g id w h hN)
  have HA := Hid.mk' h
  have HF := Hid.mk' hF
  clear h hF
  cases hp : Sp.place s.l id with
  | none =>
    rw [Sp.pl_none hp] at HI
    have HR : Hid (∀ W, Below w.heap.size w W → Did S 88 w g (Sp.atUp s id F) (.returned (.int .i64 (10 : Nat))) W) := fun W hb => Did.none_ HA.out hb (Sp.atUp_none hp)
    clear hp
    go_enter Tryz.func132, Tryz.ntmps132
    go_wp2_with fail
    refine HI.out.mono ?_
    rintro e w1 ⟨rfl, hb⟩
    have HB := Hid.mk' hb
    clear hb
    go_wp2
    go_ret
    exact HR.out _ HB.out
  | some i =>
    rw [Sp.pl_some hp] at HI
    have hi := Sp.place_lt hp
    have hat : Sp.atUp s id F = F i (s.l[i]'hi) := Sp.atUp_some hp
    clear hp
    have HT := Hid.mk' hat
    clear hat
    go_enter Tryz.func132, Tryz.ntmps132
    go_wp2_with fail
    refine HI.out.mono ?_
    rintro e w1 ⟨rfl, hb⟩
    have h1 := HA.out.stay hb
    obtain ⟨gu, hgu⟩ := RowAt.of h1 hi
    have HC := Hid.mk' (HF.out w1 i gu hi hb h1 hgu)
    have HB := Hid.mk' hb
    obtain ⟨cap, hcap, hc⟩ := hgu
    have hi' : (i : Int) < s.l.length := by omega
    have HD : Hid (∀ e w2, Did S 88 w1 g (F i s.l[i]) e w2 → Did S 88 w g (Sp.atUp s id F) e w2 ∧ ∃ c : Nat, e = .returned (.int .i64 (c : Int))) := fun e w2 hd => by
      have hsz := hb.size
      refine ⟨⟨by rw [HT.out]; exact hd.ret, ?_, (Turns.of_below hb).trans hd.turns (fun _ e _ => e)⟩, _, hd.ret⟩
      rw [HT.out]
      refine hd.at_.mono (fun k _ e => ?_)
      rcases e with e | e
      · exact Or.inl e
      · exact Or.inr (by omega)
    clear hb h1 HT HA HF HI
    generalize F i s.l[i] = r at *
    generalize Sp.atUp s id F = r2 at *
    generalize s.l.length = n at *
    go_wp2_with fail
    refine HC.out.mono ?_
    intro e w2 hd
    obtain ⟨hd2, c, rfl⟩ := HD.out e w2 hd
    have HD2 := Hid.mk' hd2
    clear hd hd2 HD
    go_wp2
    go_ret
    exact HD2.out
end Go.Proofs.YtdclmpdjjkjfjaaGreatDoor

/- Package spool, walked: Whole, most, what Begin and Declare do at an upload. -/
namespace Go.Proofs.YtdclmpdjjkjfjaaGreatDoor
open Go.RowKit

theorem whole_any (i z t : Int) (m : ByteArray) (bo : Option Addr) (n bcap : Nat) (w : World) :
    Calls Tryz.prog 139 #[.agg #[.int .i64 i, .int .i64 z, .string m, .slice bo n bcap, .int .i64 t]] w fun e w' => e = .returned (.bool (decide (z = n))) ∧ w' = w.alloc (.cells #[.int .i64 i, .int .i64 z, .string m, .slice bo n bcap, .int .i64 t] 67) := by
  go_enter Tryz.func139, Tryz.ntmps139
  go_wp2
  go_ret
  exact ⟨rfl, rfl⟩
theorem most_any (b o : Nat) (z : Int) (w : World) (hc : w.cell? ⟨b, o + 1, none⟩ = some (.int .i64 z)) :
    Calls Tryz.prog 134 #[.pointer (some ⟨b, o, none⟩)] w fun e w' => e = .returned (.int .i64 (if z = -1 then 2000 else z)) ∧ w' = w := by
  by_cases hz : z = -1
  · subst hz
    go_enter Tryz.func134, Tryz.ntmps134
    go_wp2
    go_ret
    exact ⟨rfl, rfl⟩
  · have HZ := Hid.mk' hz
    go_enter Tryz.func134, Tryz.ntmps134
    go_wp2
    go_ret
    exact ⟨by first | rfl | (rw [if_neg HZ.out]; rfl), rfl⟩
set_option maxHeartbeats 800000 in
theorem begOne_any (s : Sp.St) (S : Nat → Prop) (g gu i : Nat) (w : World) (h : SpoolAt w S g s) (hp : RowAt w g gu s.l.length) (hi : i < s.l.length) :
    Calls Tryz.prog 138 #[.pointer (some ⟨gu, i * 5, none⟩)] w (Did S 88 w g (Sp.begF s i s.l[i])) := by
  obtain ⟨q, h0, h1, h2, h3, h4, hf, hB⟩ := RowAt.up h hp hi
  by_cases hs : s.l[i].sent = 0
  · have HW := Hid.mk' (whole_any s.l[i].id s.l[i].size s.l[i].sent s.l[i].note q.bo s.l[i].bytes.length q.bcap w)
    have hb : ∀ ob, Below w.heap.size w (w.alloc ob) := fun ob => (Below.refl _ _).alloc (Nat.le_refl _) _
    by_cases hz : s.l[i].size = s.l[i].bytes.length
    · have HR : Hid (∀ W ob, W = w.alloc ob → W.frozen? ⟨gu, i * 5 + 4, none⟩ = false ∧ W.cell? ⟨gu, i * 5 + 4, none⟩ = some (.int .i64 s.l[i].sent) ∧ Did S 88 w g (Sp.begF s i s.l[i]) (.returned (.int .i64 0)) (W.setCell ⟨gu, i * 5 + 4, none⟩ (.int .i64 1))) := fun W ob hW => by
        subst hW
        obtain ⟨q2, _, _, _, _, g4, gf, _⟩ := RowAt.up (h.stay (hb ob)) (hp.stay (hb ob)) hi
        exact ⟨gf _, g4, Did.from_ (hb ob) (Did.put (u := { s.l[i] with sent := 1 }) (h.stay (hb ob)) (hp.stay (hb ob)) hi (by decide) (fun q => rfl) rfl (by unfold Sp.begF; rw [if_neg (by simpa using hs), if_neg (by simpa using hz)]))⟩
      rw [decide_eq_true hz] at HW
      rw [hs] at HW h4
      clear h hp hf hB hz hb hs
      generalize s.l[i] = u at *
      go_enter Tryz.func138, Tryz.ntmps138
      go_wp2_with fail
      refine HW.out.mono ?_
      rintro e w1 ⟨rfl, hw⟩
      obtain ⟨r1, r2, r3⟩ := HR.out _ _ hw
      have HR3 := Hid.mk' r3
      clear r3 hw
      go_wp2
      go_ret
      exact HR3.out
    · have HR : Hid (∀ W ob, W = w.alloc ob → Did S 88 w g (Sp.begF s i s.l[i]) (.returned (.int .i64 (14 : Nat))) W) := fun W ob hW => by
        subst hW
        exact Did.none_ h (hb ob) (by unfold Sp.begF; rw [if_neg (by simpa using hs), if_pos (by simpa using hz)])
      rw [decide_eq_false hz] at HW
      rw [hs] at HW h4
      clear h hp hf hB hz hb hs
      generalize s.l[i] = u at *
      go_enter Tryz.func138, Tryz.ntmps138
      go_wp2_with fail
      refine HW.out.mono ?_
      rintro e w1 ⟨rfl, hw⟩
      have HW1 := Hid.mk' hw
      clear hw
      go_wp2
      go_ret
      exact HR.out _ _ HW1.out
  · have HR : Hid (Did S 88 w g (Sp.begF s i s.l[i]) (.returned (.int .i64 (19 : Nat))) w) := Did.none_ h (Below.refl _ _) (by unfold Sp.begF; rw [if_pos (by simpa using hs)])
    clear h hp hf h0 h1 h2 h3 hB
    generalize s.l[i] = u at *
    go_enter Tryz.func138, Tryz.ntmps138
    go_wp2
    go_ret
    exact HR.out
set_option maxHeartbeats 800000 in
theorem decOne_any (s : Sp.St) (S : Nat → Prop) (g gu i b1 : Nat) (sz : Int) (w : World) (h : SpoolAt w S g s) (hp : RowAt w g gu s.l.length) (hi : i < s.l.length) (hz0 : -1 ≤ s.l[i].size) (hc : w.cell? ⟨b1, 0, none⟩ = some (.int .i64 sz)) :
    Calls Tryz.prog 136 #[.pointer (some ⟨gu, i * 5, none⟩), .pointer (some ⟨b1, 0, none⟩)] w (Did S 88 w g (Sp.decF s sz i s.l[i])) := by
  obtain ⟨q, h0, h1, h2, h3, h4, hf, hB⟩ := RowAt.up h hp hi
  by_cases hs : s.l[i].size = -1
  · have n0 : ¬ 0 ≤ s.l[i].size := by omega
    by_cases hneg : sz < 0
    · have HR : Hid (Did S 88 w g (Sp.decF s sz i s.l[i]) (.returned (.int .i64 (1 : Nat))) w) := Did.none_ h (Below.refl _ _) (by unfold Sp.decF; rw [if_neg n0, if_pos hneg])
      clear h hp hf h0 h2 h3 h4 hB n0
      generalize s.l[i] = u at *
      go_enter Tryz.func136, Tryz.ntmps136
      go_wp2
      go_ret
      exact HR.out
    · have tn : decide (sz < 0) = false := by rw [decide_eq_false_iff_not]; exact hneg
      by_cases hbig : 2000 < sz
      · have HR : Hid (∀ n, Did S 88 w g (Sp.decF s sz i s.l[i]) (.returned (.int .i64 (4 : Nat))) (w.drewN n)) := fun n => Did.none_ (c := 4) (r := Sp.decF s sz i s.l[i]) h (below_drewsN w n) (by unfold Sp.decF; rw [if_neg n0, if_neg hneg, if_pos (Or.inl hbig)])
        have tb : decide (sz > 2000) = true := by rw [decide_eq_true_eq]; exact hbig
        clear h hp hf h0 h2 h4 hB n0
        generalize s.l[i] = u at *
        go_enter Tryz.func136, Tryz.ntmps136
        go_wp2
        go_quiet (fail)
        go_wp2
        go_ret
        exact HR.out _
      · have tb : decide (sz > 2000) = false := by rw [decide_eq_false_iff_not]; omega
        by_cases hlow : sz < s.l[i].bytes.length
        · have HR : Hid (∀ n, Did S 88 w g (Sp.decF s sz i s.l[i]) (.returned (.int .i64 (4 : Nat))) (w.drewN n)) := fun n => Did.none_ (c := 4) (r := Sp.decF s sz i s.l[i]) h (below_drewsN w n) (by unfold Sp.decF; rw [if_neg n0, if_neg hneg, if_pos (Or.inr hlow)])
          have tl : decide (sz < (s.l[i].bytes.length : Int)) = true := by rw [decide_eq_true_eq]; exact hlow
          clear h hp hf h0 h2 h4 hB n0
          generalize s.l[i] = u at *
          go_enter Tryz.func136, Tryz.ntmps136
          go_wp2
          go_quiet (fail)
          go_wp2
          go_ret
          exact HR.out _
        · have hb := below_drewsN w
          have HR : Hid (∀ n, Did S 88 w g (Sp.decF s sz i s.l[i]) (.returned (.int .i64 0)) ((w.drewN n).setCell ⟨gu, i * 5 + 1, none⟩ (.int .i64 sz))) := fun n =>
            Did.from_ (hb n) (Did.put (u := { s.l[i] with size := sz }) (h.stay (hb n)) (hp.stay (hb n)) hi (by decide) (fun q => rfl) rfl (by unfold Sp.decF; rw [if_neg n0, if_neg hneg, if_neg (by omega)]))
          have tl : decide (sz < (s.l[i].bytes.length : Int)) = false := by rw [decide_eq_false_iff_not]; omega
          have hf1 : w.frozen? ⟨gu, i * 5 + 1, none⟩ = false := hf _
          clear h hp hf h0 h2 h4 hB n0 hb
          generalize s.l[i] = u at *
          go_enter Tryz.func136, Tryz.ntmps136
          go_wp2
          go_quiet (fail)
          go_wp2
          go_ret
          exact HR.out _
  · have HR : Hid (Did S 88 w g (Sp.decF s sz i s.l[i]) (.returned (.int .i64 (18 : Nat))) w) := Did.none_ h (Below.refl _ _) (by unfold Sp.decF; rw [if_pos (by omega)])
    clear h hp hf h0 h2 h3 h4 hB
    generalize s.l[i] = u at *
    go_enter Tryz.func136, Tryz.ntmps136
    go_wp2
    go_ret
    exact HR.out
end Go.Proofs.YtdclmpdjjkjfjaaGreatDoor

/- slices.Clone of bytes, walked. -/
namespace Go.Proofs.YtdclmpdjjkjfjaaGreatDoor
open Go.RowKit

set_option maxHeartbeats 1000000 in
theorem cloneBytes_any (l : List UInt8) (bo : Option Addr) (bcap n : Nat) (w : World) (hl : IsB w bo bcap l) (hn : l.length = n) (hN : n ≤ 140737488355328) :
    Calls Tryz.prog 96 #[.slice bo n bcap] w fun e w' => ∃ ao cap, e = .returned (.slice ao n cap) ∧ GrowB w' (fun k => w.heap.size ≤ k) 5 ao cap l ∧ Below w.heap.size w w' := by
  have qT : ∀ (w : World) (a : Option Addr) (n c n' c' : Nat), (binOp .eql 30 (.slice a n c) (.slice none n' c')).run Tryz.prog w = .ok (.bool a.isNone) w := fun w a n c n' c' => Lib.run_eql_slice_nil w _ _ a n c n' c' Tryz.underlying30
  cases bo with
  | none =>
    obtain ⟨rfl, rfl⟩ := hl.none_nil
    subst hn
    go_enter Tryz.func96, Tryz.ntmps96
    go_wp2
    go_ret
    exact ⟨none, 0, rfl, GrowB.nil _ _ _, Below.refl _ _⟩
  | some a =>
    have HL := Hid.mk' hl; have HN := Hid.mk' hn
    obtain ⟨i0, hi0, hz0, hz1, hz2⟩ := info_parts info_u8
    have Hi := Hid.mk' hi0; have Hz0 := Hid.mk' hz0; have Hz1 := Hid.mk' hz1; have Hz2 := Hid.mk' hz2
    clear hi0 hz0 hz1 hz2 hl hn
    go_enter Tryz.func96, Tryz.ntmps96
    go_wp2_with (at_builtin; refine wpList_append_grown (S := fun _ => False) rfl (.tmp 5) (.tmp 6) 30 rfl 5 i0 Tryz.underlying30 Hi.out Hz0.out Hz1.out Hz2.out (l := []) rfl rfl (Or.inr ⟨rfl, rfl⟩) rfl (HL.out.alloc _) HN.out (by omega) ?_; intro ao3 cap3 w3 hO3 hT3; have HO3 := Hid.mk' hO3; have HT3 := Hid.mk' hT3; clear hO3 hT3)
    go_ret
    refine ⟨ao3, cap3, by simp, ?_, ?_⟩
    · have := HO3.out
      rw [List.nil_append] at this
      exact this.mono (fun k _ e => by
        rcases e with e | e
        · simp [blkB] at e
        · simp at e; omega)
    · exact ((Below.refl _ _).alloc (Nat.le_refl _) _).trans (HT3.out.below (fun k e => by simp [blkB] at e) (by simp))
end Go.Proofs.YtdclmpdjjkjfjaaGreatDoor

/- Package spool, walked: New. -/
namespace Go.Proofs.YtdclmpdjjkjfjaaGreatDoor
open Go.RowKit

theorem newU_any (w : World) :
    Calls Tryz.prog 25 #[] w fun e w' => e = .returned (.pointer (some ⟨w.heap.size, 0, none⟩)) ∧ SpoolAt w' (fun k => w.heap.size ≤ k) w.heap.size Sp.new ∧ Below w.heap.size w w' := by
  have hbA := (Below.refl _ w).alloc (Nat.le_refl _) (.cells #[.slice none 0 0, .int .i64 0] 88)
  have HX : Hid (SpoolAt (w.alloc (.cells #[.slice none 0 0, .int .i64 0] 88)) (fun k => w.heap.size ≤ k) w.heap.size Sp.new) := ⟨none, 0, heap_alloc_new w _, Nat.le_refl _, UpO.nil _ _ _ _⟩
  have HB := Hid.mk' hbA
  clear hbA
  go_enter Tryz.func25, Tryz.ntmps25
  go_wp2
  go_ret
  exact ⟨rfl, HX.out, HB.out⟩
end Go.Proofs.YtdclmpdjjkjfjaaGreatDoor

/- The document's own answer, walked: a Hold: At, Used, End, Begin, Declare. -/
namespace Go.Proofs.YtdclmpdjjkjfjaaGreatDoor
open Go.RowKit

/-- a Hold at block g -/
abbrev HoldAt (w : World) (S : Nat → Prop) (g : Nat) (s : Sp.St) : Prop := SpAt w S 50 67 5 g s
set_option maxHeartbeats 800000 in
theorem atH_any (s : Sp.St) (S : Nat → Prop) (g : Nat) (id : Int) (w : World) (h : HoldAt w S g s) (hN : s.l.length ≤ 1000) :
    Calls Tryz.prog 34 #[.pointer (some ⟨g, 0, none⟩), .int .i64 id] w fun e w' => e = .returned (.int .i64 (Sp.pl s.l id)) ∧ w' = w := by
  obtain ⟨ao, cap, c0, c1, f0, f1, hg, hS, hU⟩ := h.cells
  have H := Hid.mk' hU.isUps
  have hcap := hU.cap_
  clear h hU hg hS c1 f0 f1
  generalize s.l = l at *
  go_enter Tryz.func34, Tryz.ntmps34
  go_wp2
  go_loop [5] (fun t => ∃ k : Nat, k ≤ l.length ∧ t = .int .i64 k ∧ ∀ p ∈ l.take k, p.id ≠ id) (fun t => l.length - (intOf t).toNat)
  case atStart => exact ⟨0, Nat.zero_le _, rfl, fun p hp => by simp at hp⟩
  case round =>
    obtain ⟨k, hk, rfl, hno⟩ := hrel
    have HN := Hid.mk' hno
    clear hno
    by_cases hlt : k < l.length
    · obtain ⟨bb, oo, q, rfl, hc0, hc1, hc2, hc3, hc4, _⟩ := H.out.at_ k hlt
      have hlt' : (k : Int) < l.length := by omega
      have HT : Hid (l.take (k + 1) = l.take k ++ [l[k]]) := List.take_succ_eq_append_getElem hlt
      by_cases he : l[k].id = id
      · have HR : Hid (Sp.pl l id = k) := Sp.pl_some (Sp.place_of l id k hlt he HN.out)
        clear HN HT
        generalize l[k] = p at *
        go_wp2
        go_ret
        exact ⟨by rw [HR.out]; rfl, rfl⟩
      · have HE := Hid.mk' he
        generalize l[k] = p at *
        go_wp2
        go_round
        case rel =>
          refine ⟨k + 1, by omega, by go_num, fun r hr => ?_⟩
          rw [HT.out, List.mem_append] at hr
          rcases hr with hr | hr
          · exact HN.out r hr
          · rw [List.mem_singleton] at hr; subst hr; exact HE.out
        case measure => simp [intOf]; omega
    · obtain rfl : k = l.length := by omega
      have HR : Hid (Sp.pl l id = -1) := Sp.pl_none (Sp.place_no l id fun p hp => HN.out p (by rw [List.take_length]; exact hp))
      clear HN
      go_wp2
      go_ret
      exact ⟨by rw [HR.out]; rfl, rfl⟩
set_option maxHeartbeats 800000 in
theorem usedH_any (s : Sp.St) (S : Nat → Prop) (g : Nat) (w : World) (h : HoldAt w S g s) (hN : s.l.length ≤ 1000) (hQ : Sp.used s.l ≤ 1000000) :
    Calls Tryz.prog 127 #[.pointer (some ⟨g, 0, none⟩)] w fun e w' => e = .returned (.int .i64 (Sp.used s.l)) ∧ w' = w := by
  obtain ⟨ao, cap, c0, c1, f0, f1, hg, hS, hU⟩ := h.cells
  have H := Hid.mk' hU.isUps
  have hcap := hU.cap_
  clear h hU hg hS c1 f0 f1
  generalize s.l = l at *
  go_enter Tryz.func127, Tryz.ntmps127
  go_wp2
  go_loop [3, 4] (fun v t => ∃ k : Nat, k ≤ l.length ∧ t = .int .i64 k ∧ v = .int .i64 (Sp.used (l.take k) : Int)) (fun _ t => l.length - (intOf t).toNat)
  case atStart => exact ⟨0, Nat.zero_le _, rfl, rfl⟩
  case round =>
    obtain ⟨k, hk, rfl, rfl⟩ := hrel
    have hu := Sp.used_le l k
    by_cases hlt : k < l.length
    · obtain ⟨bb, oo, q, rfl, hc0, hc1, hc2, hc3, hc4, _⟩ := H.out.at_ k hlt
      have hlt' : (k : Int) < l.length := by omega
      have HT : Hid (Sp.used (l.take (k + 1)) = Sp.used (l.take k) + l[k].bytes.length) := Sp.used_take l k hlt
      have hone := Sp.used_one l k hlt
      generalize l[k] = p at *
      generalize Sp.used (l.take k) = qq at *
      go_wp2
      go_round
      case rel => exact ⟨k + 1, by omega, by go_num, by rw [HT.out]; go_num⟩
      case measure => simp [intOf]; omega
    · obtain rfl : k = l.length := by omega
      go_wp2
      go_ret
      exact ⟨rfl, rfl⟩
set_option maxHeartbeats 800000 in
theorem endH_any (s : Sp.St) (S : Nat → Prop) (g : Nat) (id : Int) (w : World) (h : HoldAt w S g s) (ok : Sp.Ok s) :
    Calls Tryz.prog 123 #[.pointer (some ⟨g, 0, none⟩), .int .i64 id] w (Did S 50 w g (Sp.ends s id)) := by
  have hfew := ok.few
  have HI := Hid.mk' (atH_any s S g id w h (by omega))
  rw [Sp.ends_F]
  cases hp : Sp.place s.l id with
  | none =>
    rw [Sp.pl_none hp] at HI
    have HR : Hid (Did S 50 w g (Sp.atUp s id (Sp.endF s)) (.returned (.int .i64 (10 : Nat))) w) := Did.none_ h (Below.refl _ _) (Sp.atUp_none hp)
    clear hp h ok
    generalize Sp.atUp s id (Sp.endF s) = r at *
    go_enter Tryz.func123, Tryz.ntmps123
    go_wp2_with (go_at_call 34; refine HI.out.mono ?_; rintro e w1 ⟨rfl, hw⟩; rw [hw]; clear hw)
    go_ret
    exact HR.out
  | some i =>
    rw [Sp.pl_some hp] at HI
    have hi := Sp.place_lt hp
    have hat : Sp.atUp s id (Sp.endF s) = Sp.endF s i (s.l[i]'hi) := Sp.atUp_some hp
    rw [hat]
    clear hp hat
    obtain ⟨gu, hgu⟩ := RowAt.of h hi
    obtain ⟨q, h0, h1, h2, h3, h4, hf, hB⟩ := RowAt.up h hgu hi
    have hf4 := hf (i * 5 + 4)
    have hi' : (i : Int) < s.l.length := by omega
    by_cases hs : s.l[i].sent = 1
    · have HR : Hid (∀ W, W = w.setCell ⟨gu, i * 5 + 4, none⟩ (.int .i64 2) → Did S 50 w g (Sp.endF s i s.l[i]) (.returned (.int .i64 0)) W) := fun W hW => by
        rw [hW]
        exact Did.put (u := { s.l[i] with sent := 2 }) h hgu hi (by decide) (fun q => rfl) rfl (by unfold Sp.endF; rw [if_neg (by simpa using hs)])
      rw [hs] at h4
      obtain ⟨cap, hcap, hc⟩ := hgu
      clear h hf h0 h1 h2 h3 hB ok hs
      generalize Sp.endF s i s.l[i] = r at *
      go_enter Tryz.func123, Tryz.ntmps123
      go_wp2_with (go_at_call 34; refine HI.out.mono ?_; rintro e w1 ⟨rfl, hw⟩; rw [hw]; clear hw)
      go_ret
      exact HR.out _ rfl
    · have HR : Hid (Did S 50 w g (Sp.endF s i s.l[i]) (.returned (.int .i64 (19 : Nat))) w) := Did.none_ h (Below.refl _ _) (by unfold Sp.endF; rw [if_pos (by simpa using hs)])
      obtain ⟨cap, hcap, hc⟩ := hgu
      clear h hf h0 h1 h2 h3 hB ok
      generalize Sp.endF s i s.l[i] = r at *
      go_enter Tryz.func123, Tryz.ntmps123
      go_wp2_with (go_at_call 34; refine HI.out.mono ?_; rintro e w1 ⟨rfl, hw⟩; rw [hw]; clear hw)
      go_ret
      exact HR.out
set_option maxHeartbeats 800000 in
theorem beginH_any (s : Sp.St) (S : Nat → Prop) (g : Nat) (id : Int) (w : World) (h : HoldAt w S g s) (ok : Sp.Ok s) :
    Calls Tryz.prog 122 #[.pointer (some ⟨g, 0, none⟩), .int .i64 id] w (Did S 50 w g (Sp.begins s id)) := by
  have hfew := ok.few
  have HI := Hid.mk' (atH_any s S g id w h (by omega))
  rw [Sp.begins_F]
  cases hp : Sp.place s.l id with
  | none =>
    rw [Sp.pl_none hp] at HI
    have HR : Hid (Did S 50 w g (Sp.atUp s id (Sp.begF s)) (.returned (.int .i64 (10 : Nat))) w) := Did.none_ h (Below.refl _ _) (Sp.atUp_none hp)
    clear hp h ok
    generalize Sp.atUp s id (Sp.begF s) = r at *
    go_enter Tryz.func122, Tryz.ntmps122
    go_wp2_with (go_at_call 34; refine HI.out.mono ?_; rintro e w1 ⟨rfl, hw⟩; rw [hw]; clear hw)
    go_ret
    exact HR.out
  | some i =>
    rw [Sp.pl_some hp] at HI
    have hi := Sp.place_lt hp
    have hat : Sp.atUp s id (Sp.begF s) = Sp.begF s i (s.l[i]'hi) := Sp.atUp_some hp
    rw [hat]
    clear hp hat
    obtain ⟨gu, hgu⟩ := RowAt.of h hi
    obtain ⟨q, h0, h1, h2, h3, h4, hf, hB⟩ := RowAt.up h hgu hi
    have hf4 := hf (i * 5 + 4)
    have hi' : (i : Int) < s.l.length := by omega
    by_cases hs : s.l[i].sent = 0
    · by_cases hz : s.l[i].size = s.l[i].bytes.length
      · have HR : Hid (∀ n, Did S 50 w g (Sp.begF s i s.l[i]) (.returned (.int .i64 0)) ((w.drewN n).setCell ⟨gu, i * 5 + 4, none⟩ (.int .i64 1))) := fun n =>
          Did.from_ (below_drewsN w n) (Did.put (u := { s.l[i] with sent := 1 }) (h.stay (below_drewsN w n)) (hgu.stay (below_drewsN w n)) hi (by decide) (fun q => rfl) rfl (by unfold Sp.begF; rw [if_neg (by simpa using hs), if_neg (by simpa using hz)]))
        rw [hs] at h4
        rw [hz] at h1
        obtain ⟨cap, hcap, hc⟩ := hgu
        clear h hf h0 h2 hB ok hs hz
        generalize Sp.begF s i s.l[i] = r at *
        generalize s.l[i].bytes.length = bn at *
        go_enter Tryz.func122, Tryz.ntmps122
        go_wp2_with (go_at_call 34; refine HI.out.mono ?_; rintro e w1 ⟨rfl, hw⟩; rw [hw]; clear hw)
        go_quiet (fail)
        go_wp2
        go_ret
        exact HR.out _
      · have HR : Hid (∀ n, Did S 50 w g (Sp.begF s i s.l[i]) (.returned (.int .i64 (14 : Nat))) (w.drewN n)) := fun n => Did.none_ (c := 14) (r := Sp.begF s i s.l[i]) h (below_drewsN w n) (by unfold Sp.begF; rw [if_neg (by simpa using hs), if_pos hz])
        rw [hs] at h4
        obtain ⟨cap, hcap, hc⟩ := hgu
        clear h hf h0 h2 hB ok hs
        generalize Sp.begF s i s.l[i] = r at *
        generalize s.l[i].bytes.length = bn at *
        generalize s.l[i].size = sz at *
        go_enter Tryz.func122, Tryz.ntmps122
        go_wp2_with (go_at_call 34; refine HI.out.mono ?_; rintro e w1 ⟨rfl, hw⟩; rw [hw]; clear hw)
        go_quiet (fail)
        go_wp2
        go_ret
        exact HR.out _
    · have HR : Hid (Did S 50 w g (Sp.begF s i s.l[i]) (.returned (.int .i64 (19 : Nat))) w) := Did.none_ h (Below.refl _ _) (by unfold Sp.begF; rw [if_pos (by simpa using hs)])
      obtain ⟨cap, hcap, hc⟩ := hgu
      clear h hf h0 h1 h2 h3 hB ok
      generalize Sp.begF s i s.l[i] = r at *
      go_enter Tryz.func122, Tryz.ntmps122
      go_wp2_with (go_at_call 34; refine HI.out.mono ?_; rintro e w1 ⟨rfl, hw⟩; rw [hw]; clear hw)
      go_ret
      exact HR.out
end Go.Proofs.YtdclmpdjjkjfjaaGreatDoor

/- Package tus, walked: field, answer; what is given up with; need. -/
namespace Go.Proofs.YtdclmpdjjkjfjaaGreatDoor
open Go.RowKit

theorem fieldT_any (n v : ByteArray) (w : World) : Calls Tryz.prog 53 #[.string n, .string v] w fun e w' => e = .returned (.agg #[.string n, .string v]) ∧ Below w.heap.size w w' := by
  have c0 : (w.alloc (.cells #[.string n, .string v] 58)).cell? ⟨w.heap.size, 0, none⟩ = some (.string n) := World.cell?_alloc_mark w _ _ _ 0
  have c1 : (w.alloc (.cells #[.string n, .string v] 58)).cell? ⟨w.heap.size, 1, none⟩ = some (.string v) := World.cell?_alloc_mark w _ _ _ 1
  go_enter Tryz.func53, Tryz.ntmps53
  go_wp2
  exact bodyPost_ret (v := .agg #[.string n, .string v]) (by simp [results, Tryz.results53, go_sem, c0, c1]) rfl ⟨rfl, (Below.refl _ w).alloc (Nat.le_refl _) _⟩
/-- an exchange gave up, with a reply -/
def tgave (st : Int) (ao : Option Addr) (n cap : Nat) : Ending := .panicked [{ v := .iface 100 (.agg #[.int .i64 st, .slice ao n cap, .slice none 0 0]), recovered := false }]
/-- .. and this is the reply -/
def Gave (w : World) (r : Tu.Rep) (e : Ending) (w' : World) : Prop := ∃ (ao : Option Addr) (cap n : Nat), e = tgave (r.1 : Int) ao n cap ∧ r.2.length = n ∧ OwnV w' w.heap.size 58 2 ao cap n (pairV r.2) ∧ Below w.heap.size w w'
/-- a reply was made -/
def Rdone (w : World) (r : Tu.Rep) (e : Ending) (w' : World) : Prop := ∃ (ao : Option Addr) (cap n : Nat), e = .returned (.agg #[.int .i64 (r.1 : Int), .slice ao n cap, .slice none 0 0]) ∧ r.2.length = n ∧ OwnV w' w.heap.size 58 2 ao cap n (pairV r.2) ∧ Below w.heap.size w w'
theorem Gave.from_ {w w1 w' : World} {r : Tu.Rep} {e : Ending} (hb : Below w.heap.size w w1) (h : Gave w1 r e w') : Gave w r e w' := by
  obtain ⟨ao, cap, n, h1, h2, h3, h4⟩ := h
  exact ⟨ao, cap, n, h1, h2, h3.mono hb.size, then_ hb h4⟩
theorem Rdone.from_ {w w1 w' : World} {r : Tu.Rep} {e : Ending} (hb : Below w.heap.size w w1) (h : Rdone w1 r e w') : Rdone w r e w' := by
  obtain ⟨ao, cap, n, h1, h2, h3, h4⟩ := h
  exact ⟨ao, cap, n, h1, h2, h3.mono hb.size, then_ hb h4⟩
set_option maxHeartbeats 800000 in
theorem answerT_any (st : Nat) (sti : Int) (hst : (st : Int) = sti) (l : List (ByteArray × ByteArray)) (mo : Option Addr) (mcap n : Nat) (w : World) (hl : IsV w mo mcap n (pairV l)) (hn : l.length = n) (hN : n ≤ 1000) :
    Calls Tryz.prog 59 #[.int .i64 sti, .slice mo n mcap] w fun e w' => Rdone w (Tu.said st l) e w' := by
  obtain ⟨i0, hi0, hz0, hz1, hz2⟩ := info_parts info_fld
  have Hi := Hid.mk' hi0; have Hz0 := Hid.mk' hz0; have Hz1 := Hid.mk' hz1; have Hz2 := Hid.mk' hz2
  have HF := Hid.mk' (fieldT_any Tu.fTR Tu.v100 (w.alloc (.cells #[.int .i64 0, .slice none 0 0, .slice none 0 0] 32)))
  have HL := Hid.mk' hl; have HN := Hid.mk' hn; have HST := Hid.mk' hst
  have hbA := (Below.refl _ w).alloc (Nat.le_refl _) (.cells #[.int .i64 0, .slice none 0 0, .slice none 0 0] 32)
  have HBA := Hid.mk' hbA
  clear hi0 hz0 hz1 hz2 hl hn hst hbA
  unfold Tu.fTR Tu.v100 at HF
  go_enter Tryz.func59, Tryz.ntmps59
  go_wp2_with fail
  refine HF.out.mono ?_
  rintro e w1 ⟨rfl, hb1⟩
  have hr1 : w1.heap[w.heap.size]? = some (.cells #[.int .i64 0, .slice none 0 0, .slice none 0 0] 32 (0, 0)) := (hb1.block w.heap.size (by simp)).trans (heap_alloc_new w _)
  have hlt := (Array.getElem?_eq_some_iff.1 hr1).1
  have hb2 := then_ (then_ HBA.out hb1) ((Below.refl _ w1).alloc (Nat.le_refl _) (.cells #[.string Tu.fTR, .string Tu.v100] 58))
  have hO : OwnV (w1.alloc (.cells #[.string Tu.fTR, .string Tu.v100] 58)) w.heap.size 58 2 (some ⟨w1.heap.size, 0, none⟩) 1 1 [.string Tu.fTR, .string Tu.v100] := World.ownsRow_lit w1 #[.string Tu.fTR, .string Tu.v100] 1 (by omega) (by decide) rfl
  have hr2 := (((Below.refl _ w1).alloc (Nat.le_refl _) (.cells #[.string Tu.fTR, .string Tu.v100] 58)).block w.heap.size hlt).trans hr1
  have HV := Hid.mk' (HL.out.stay hb2)
  have HO := Hid.mk' hO
  have HE : Hid (∀ (ao3 : Option Addr) (cap3 : Nat) (w3 : World), OwnV w3 w.heap.size 58 2 ao3 cap3 (1 + n) ([.string Tu.fTR, .string Tu.v100] ++ pairV l) → (w1.alloc (.cells #[.string Tu.fTR, .string Tu.v100] 58)).grownBy w3 (some w1.heap.size) → (w3.cell? ⟨w.heap.size, 0, none⟩ = some (.int .i64 0) ∧ w3.cell? ⟨w.heap.size, 1, none⟩ = some (.slice none 0 0) ∧ w3.cell? ⟨w.heap.size, 2, none⟩ = some (.slice none 0 0) ∧ w3.frozen? ⟨w.heap.size, 0, none⟩ = false ∧ w3.frozen? ⟨w.heap.size, 1, none⟩ = false ∧ w3.frozen? ⟨w.heap.size, 2, none⟩ = false) ∧
      Hid ((((w3.setCell ⟨w.heap.size, 0, none⟩ (.int .i64 sti)).setCell ⟨w.heap.size, 1, none⟩ (.slice ao3 (1 + n) cap3)).setCell ⟨w.heap.size, 2, none⟩ (.slice none 0 0)).heap[w.heap.size]? = some (.cells #[.int .i64 sti, .slice ao3 (1 + n) cap3, .slice none 0 0] 32 (0, 0)) ∧ Rdone w (Tu.said st l) (.returned (.agg #[.int .i64 sti, .slice ao3 (1 + n) cap3, .slice none 0 0])) (((w3.setCell ⟨w.heap.size, 0, none⟩ (.int .i64 sti)).setCell ⟨w.heap.size, 1, none⟩ (.slice ao3 (1 + n) cap3)).setCell ⟨w.heap.size, 2, none⟩ (.slice none 0 0)))) := fun ao3 cap3 w3 hO3 hG3 => by
    have hr3 := (hG3.block _ (Array.getElem?_eq_some_iff.1 hr2).1 (fun e => by injection e with e; omega)).trans hr2
    refine ⟨⟨cell_of_row w3 _ 0 _ _ _ hr3, cell_of_row w3 _ 1 _ _ _ hr3, cell_of_row w3 _ 2 _ _ _ hr3, frozen_of_row w3 _ 0 _ _ hr3, frozen_of_row w3 _ 1 _ _ hr3, frozen_of_row w3 _ 2 _ _ hr3⟩, ?_⟩
    have r0 := heap_setCell_same w3 w.heap.size 0 _ _ (.int .i64 sti) hr3
    have r1 := heap_setCell_same _ w.heap.size 1 _ _ (.slice ao3 (1 + n) cap3) r0
    have r2 := heap_setCell_same _ w.heap.size 2 _ _ (.slice none 0 0) r1
    refine ⟨r2, ao3, cap3, 1 + n, by rw [← HST.out]; rfl, ?_, ?_, ?_⟩
    · show (_ :: l).length = 1 + n
      have := HN.out; simp only [List.length_cons]; omega
    · have nz := row_ne hr3 hO3 (by decide)
      rw [ownBlock_slice] at nz
      exact hO3.turns (setCells_turns w.heap.size [.int .i64 sti, .slice ao3 (1 + n) cap3, .slice none 0 0] 0 w3) (fun a e e2 => nz (by rw [e]; show some a.block = _; rw [e2]))
    · have h3 : Below w.heap.size w w3 := hb2.grown hG3 hb2.size (fun q e => by injection e with e; omega)
      exact h3.trans ((setCells_turns w.heap.size [.int .i64 sti, .slice ao3 (1 + n) cap3, .slice none 0 0] 0 w3).below (fun k e => by omega) h3.size)
  have HZ : Hid (w.heap.size ≤ (w1.alloc (.cells #[.string Tu.fTR, .string Tu.v100] 58)).heap.size) := hb2.size
  have HN2 : Hid ((pairV l).length = n * 2) := by unfold Hid; rw [pairV_length, HN.out]
  unfold Tu.fTR Tu.v100 at HO HV HE HZ
  clear hb1 hr1 hlt hb2 hO hr2
  go_wp2_with (at_builtin; refine wpList_append_v rfl (.tmp 7) (.tmp 8) 29 rfl w.heap.size 58 i0 (.agg #[.string ⟨#[]⟩, .string ⟨#[]⟩]) 2 32 Tryz.underlying29 Hi.out Hz0.out Hz1.out Hz2.out rfl (by decide) rfl HO.out rfl HV.out HN2.out (pairV_one l) (by omega) (by omega) HZ.out ?_; intro ao3 cap3 w3 hO3 hG3 _; obtain ⟨⟨x0, x1, x2, y0, y1, y2⟩, HX⟩ := HE.out ao3 cap3 w3 hO3 hG3; clear hO3 hG3)
  generalize (((w3.setCell ⟨w.heap.size, 0, none⟩ (.int .i64 sti)).setCell ⟨w.heap.size, 1, none⟩ (.slice ao3 (1 + n) cap3)).setCell ⟨w.heap.size, 2, none⟩ (.slice none 0 0)) = wf at *
  obtain ⟨hrow, hD⟩ := HX.out
  have q0 : wf.cell? ⟨w.heap.size, 0, none⟩ = some (.int .i64 sti) := cell_of_row wf _ 0 _ _ _ hrow
  have q1 : wf.cell? ⟨w.heap.size, 1, none⟩ = some (.slice ao3 (1 + n) cap3) := cell_of_row wf _ 1 _ _ _ hrow
  have q2 : wf.cell? ⟨w.heap.size, 2, none⟩ = some (.slice none 0 0) := cell_of_row wf _ 2 _ _ _ hrow
  exact bodyPost_ret (v := .agg #[.int .i64 sti, .slice ao3 (1 + n) cap3, .slice none 0 0]) (by simp [results, Tryz.results59, go_sem, q0, q1, q2]) rfl hD
theorem answerT_none (st : Nat) (sti : Int) (hst : (st : Int) = sti) (w : World) : Calls Tryz.prog 59 #[.int .i64 sti, .slice none 0 0] w fun e w' => Rdone w (Tu.said st []) e w' :=
  answerT_any st sti hst [] none 0 0 w (IsV.nil w) rfl (by decide)
/-- .. with its status as it is spelt -/
theorem answerT_lit (st : Nat) (sti : Int) (hst : (st : Int) = sti) (l : List (ByteArray × ByteArray)) (mo : Option Addr) (mcap n : Nat) (w : World) (hl : IsV w mo mcap n (pairV l)) (hn : l.length = n) (hN : n ≤ 1000) :
    Calls Tryz.prog 59 #[.int .i64 sti, .slice mo n mcap] w fun e w' => ∃ (ao : Option Addr) (cap k : Nat), e = .returned (.agg #[.int .i64 sti, .slice ao k cap, .slice none 0 0]) ∧ ((Tu.fTR, Tu.v100) :: l).length = k ∧ OwnV w' w.heap.size 58 2 ao cap k (pairV ((Tu.fTR, Tu.v100) :: l)) ∧ Below w.heap.size w w' := by
  subst hst
  exact answerT_any st _ rfl l mo mcap n w hl hn hN
/-- what is so is gone on with -/
theorem needT_yes (sti : Int) (mo : Option Addr) (n mcap : Nat) (w : World) : Calls Tryz.prog 52 #[.bool true, .int .i64 sti, .slice mo n mcap] w fun e w' => e = .returned (.tuple #[]) ∧ w' = w := by
  go_enter Tryz.func52, Tryz.ntmps52
  go_wp2
  go_end0
  exact ⟨rfl, rfl⟩
/-- .. and what is not is given up with -/
theorem needT_no (st : Nat) (sti : Int) (hst : (st : Int) = sti) (l : List (ByteArray × ByteArray)) (mo : Option Addr) (mcap n : Nat) (w : World) (hl : IsV w mo mcap n (pairV l)) (hn : l.length = n) (hN : n ≤ 1000) :
    Calls Tryz.prog 52 #[.bool false, .int .i64 sti, .slice mo n mcap] w fun e w' => Gave w (Tu.said st l) e w' := by
  have HA := Hid.mk' (answerT_any st sti hst l mo mcap n w hl hn hN)
  clear hl hn hst
  go_enter Tryz.func52, Tryz.ntmps52
  go_wp2_with fail
  refine HA.out.mono ?_
  rintro e w1 ⟨ao, cap, m, rfl, h1, h2, h3⟩
  have HG : Hid (Gave w (Tu.said st l) (tgave ((Tu.said st l).1 : Int) ao m cap) w1) := ⟨ao, cap, m, rfl, h1, h2, h3⟩
  clear h1 h2 h3
  go_wp2
  exact ⟨rfl, HG.out⟩
theorem needT_none (st : Nat) (sti : Int) (hst : (st : Int) = sti) (w : World) : Calls Tryz.prog 52 #[.bool false, .int .i64 sti, .slice none 0 0] w fun e w' => Gave w (Tu.said st []) e w' :=
  needT_no st sti hst [] none 0 0 w (IsV.nil w) rfl (by decide)
end Go.Proofs.YtdclmpdjjkjfjaaGreatDoor
