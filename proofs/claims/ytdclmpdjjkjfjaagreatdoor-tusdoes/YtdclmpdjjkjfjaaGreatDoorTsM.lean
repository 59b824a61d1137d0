/- Package tus, walked: caught, Do. -/
import Derived.Test.YtdclmpdjjkjfjaaGreatDoorTsL
import Derived.Defers
import Derived.Recover
namespace Go.Proofs.YtdclmpdjjkjfjaaGreatDoor
open Go.RowKit

set_option maxRecDepth 100000 in
theorem catchT_panicking (b : Nat) (st : Int) (ao : Option Addr) (n cap : Nat) (older : List PanicEntry) (w : World) (hr : w.cell? ⟨b, 0, none⟩ = some (.int .i64 0) ∧ w.cell? ⟨b, 1, none⟩ = some (.slice none 0 0) ∧ w.cell? ⟨b, 2, none⟩ = some (.slice none 0 0) ∧ w.frozen? ⟨b, 0, none⟩ = false ∧ w.frozen? ⟨b, 1, none⟩ = false ∧ w.frozen? ⟨b, 2, none⟩ = false) :
    CallsD Tryz.prog 49 #[.pointer (some ⟨b, 0, none⟩)] (.panicking ({ v := .iface 100 (.agg #[.int .i64 st, .slice ao n cap, .slice none 0 0]), recovered := false } :: older)) w fun e u' w' =>
      e = .returned (.tuple #[]) ∧ u' = .panicking ({ v := .iface 100 (.agg #[.int .i64 st, .slice ao n cap, .slice none 0 0]), recovered := true } :: older) ∧ w' = (((w.setCell ⟨b, 0, none⟩ (.int .i64 st)).setCell ⟨b, 1, none⟩ (.slice ao n cap)).setCell ⟨b, 2, none⟩ (.slice none 0 0)) := by
  obtain ⟨c0, c1, c2, f0, f1, f2⟩ := hr
  refine callsD_of_wpS Tryz.func49 rfl fun c₀ cs hu => ?_
  apply wpS_seq
  apply wpS_region
  simp [wpOpsS, go_sem, recoverD, hu, Tryz.ntmps49, Exit.thenS]
  change Code.wpS _ _ _ { tmps := #[.pointer (some ⟨b, 0, none⟩), .iface 100 (.agg #[.int .i64 st, .slice ao n cap, .slice none 0 0]), .iface 100 (.agg #[.int .i64 st, .slice ao n cap, .slice none 0 0]), undef, undef, undef, undef, undef], defers := [] } _ _
  refine wpS_of_wp ?_
  have hta : ∀ w : World, (Instr.typeAssert (.iface 100 (.agg #[.int .i64 st, .slice ao n cap, .slice none 0 0])) 20 100 false).run Tryz.prog w = .ok (.agg #[.int .i64 st, .slice ao n cap, .slice none 0 0]) w := fun _ => by kernel_rfl
  have hfl : ∀ w : World, (Instr.field 100 (.agg #[.int .i64 st, .slice ao n cap, .slice none 0 0]) 0).run Tryz.prog w = .ok (.agg #[.int .i64 st, .slice ao n cap, .slice none 0 0]) w := fun _ => by kernel_rfl
  go_wp2
  simp [bodyPostS, results, Tryz.results49]

set_option maxRecDepth 100000 in
theorem catchT_idle (b : Nat) (w : World) :
    CallsD Tryz.prog 49 #[.pointer (some ⟨b, 0, none⟩)] .returning w fun e u' w' => e = .returned (.tuple #[]) ∧ u' = .returning ∧ w' = w := by
  refine callsD_of_wpS Tryz.func49 rfl fun c₀ cs hu => ?_
  apply wpS_seq
  apply wpS_region
  simp [wpOpsS, go_sem, recoverD, hu, Tryz.ntmps49, Exit.thenS]
  change Code.wpS _ _ _ { tmps := #[.pointer (some ⟨b, 0, none⟩), .nilIface, .nilIface, undef, undef, undef, undef, undef], defers := [] } _ _
  refine wpS_of_wp ?_
  go_wp2
  cases c₀
  simp_all [bodyPostS, results, Tryz.results49]
section
variable {g : Nat} {m t : ByteArray} {mi ln : Int} {l : List (ByteArray × ByteArray)} {fo : Option Addr} {fcap nf : Nat} {bo : Option Addr} {bcap nb : Nat} {w w0 : World} {S : Nat → Prop} {s : Sr.Sh}
theorem exRB (h : StAt w S g s) : TbAt StAt S w g [.cells #[.int .i64 0, .slice none 0 0, .slice none 0 0] 32 (0, 0)] s (fun k => S k ∧ k < w.heap.size) (w.alloc (.cells #[.int .i64 0, .slice none 0 0, .slice none 0 0] 32)) := (TbAt.start stLaw h).box stLaw rfl (fun _ e => e.2) _
set_option maxRecDepth 100000 in
set_option maxHeartbeats 3200000 in
theorem caughtT_any (p : PwIn w0 w S) (h : StAt w S g s) (ok : Sr.Ok s) (hlg : s.log.length ≤ 99000) (hF : FlIn w l fo fcap nf) (body : List UInt8) (hb : body.length = nb) (hB : IsB w bo bcap body) (hnb : nb ≤ 100000) (ht : t.size ≤ 100000) :
    Calls Tryz.prog 27 #[.func (.func 28) #[.agg #[.pointer (some ⟨g, 0, none⟩), .string m, .string t, .int .i64 mi, .slice fo nf fcap, .int .i64 ln, .slice bo nb bcap]] #[]] w fun e w' => TuDid StAt S w g (Tu.tus s m t l body) e w' := by
  have hmf : ∀ (fn : Fn) (first cap : Array Value) (w : World), (Instr.makeFunc fn first cap).run Tryz.prog w = .ok (.func fn first cap) w := fun _ _ _ _ => rfl
  have T1 := exRB h
  have hb1 := (Below.refl _ w).alloc (Nat.le_refl _) (.cells #[.int .i64 0, .slice none 0 0, .slice none 0 0] 32)
  have HRp := Hid.mk' (replyT_any (m := m) (t := t) (mi := mi) (ln := ln) (bo := bo) (bcap := bcap) (nb := nb) (T1.pw p) T1.sh ok hlg (hF.stay hb1) body hb (hB.stay hb1) hnb ht)
  have H1 := Hid.mk' T1
  clear T1 hb1 p h ok hlg hF hb hB
  obtain ⟨R, hR⟩ : ∃ R, R = Tu.tus s m t l body := ⟨_, rfl⟩
  rw [← hR] at HRp ⊢
  clear hR
  obtain ⟨sr, st, lr⟩ := R
  go_enter_defers Tryz.func27, Tryz.ntmps27
  go_wp2_with fail
  refine HRp.out.mono ?_
  rintro e w9 hE
  cases hE with
  | @gave ao9 cap9 n9 _ hn9 hO9 hat9 hT9 =>
    have hH9 := H1.out.did hat9 hT9
    replace hO9 := hO9.mono (Nat.le_trans (Nat.le_add_right _ _) H1.out.sz)
    obtain ⟨hz, HE⟩ := hH9.ends stLaw (i := 0) rfl (b := w.heap.size) (by first | rfl | omega) (st := st) (sti := (st : Int)) rfl hn9 (Nat.le_refl _) hO9 (Below.refl w9.heap.size w9)
    have HZ := Hid.mk' hz
    clear hn9 hO9 hat9 hT9 hH9 hz
    unfold tgave
    go_wp2
    refine leaves_cons (f := 49) (args := #[.pointer (some ⟨w.heap.size, 0, none⟩)]) (by simp) (by simp [go_sem]) ?_
    refine (catchT_panicking w.heap.size st ao9 n9 cap9 [] w9 HZ.out).mono ?_
    rintro e u' w'' ⟨rfl, rfl, hw⟩
    rw [hw]
    clear hw HZ
    generalize (((w9.setCell ⟨w.heap.size, 0, none⟩ (.int .i64 (st : Int))).setCell ⟨w.heap.size, 1, none⟩ (.slice ao9 n9 cap9)).setCell ⟨w.heap.size, 2, none⟩ (.slice none 0 0)) = wf at *
    obtain ⟨q0, q1, q2, q3⟩ := HE.out
    simp [Leaves, settle, results, Tryz.results27, go_sem, q0, q1, q2]
    exact q3
  | @ret ao9 cap9 n9 _ hn9 hO9 hat9 hT9 =>
    have hH9 := H1.out.did hat9 hT9
    replace hO9 := hO9.mono (Nat.le_trans (Nat.le_add_right _ _) H1.out.sz)
    obtain ⟨⟨z0, z1, z2, y0, y1, y2⟩, HE⟩ := hH9.ends stLaw (i := 0) rfl (b := w.heap.size) (by first | rfl | omega) (st := st) (sti := (st : Int)) rfl hn9 (Nat.le_refl _) hO9 (Below.refl w9.heap.size w9)
    clear hn9 hO9 hat9 hT9 hH9
    go_wp2
    refine leaves_cons (f := 49) (args := #[.pointer (some ⟨w.heap.size, 0, none⟩)]) (by simp) (by simp [go_sem]) ?_
    refine (catchT_idle w.heap.size _).mono ?_
    rintro e u' w'' ⟨rfl, rfl, hw⟩
    rw [hw]
    clear hw
    generalize (((w9.setCell ⟨w.heap.size, 0, none⟩ (.int .i64 (st : Int))).setCell ⟨w.heap.size, 1, none⟩ (.slice ao9 n9 cap9)).setCell ⟨w.heap.size, 2, none⟩ (.slice none 0 0)) = wf at *
    obtain ⟨q0, q1, q2, q3⟩ := HE.out
    simp [Leaves, settle, results, Tryz.results27, go_sem, q0, q1, q2]
    exact q3
set_option maxRecDepth 100000 in
set_option maxHeartbeats 3200000 in
theorem doT_any (p : PwIn w0 w S) (h : StAt w S g s) (ok : Sr.Ok s) (hlg : s.log.length ≤ 99000) (hF : FlIn w l fo fcap nf) (body : List UInt8) (hb : body.length = nb) (hB : IsB w bo bcap body) (hnb : nb ≤ 100000) (ht : t.size ≤ 100000) :
    Calls Tryz.prog 10 #[.pointer (some ⟨g, 0, none⟩), .agg #[.string m, .string t, .int .i64 mi, .slice fo nf fcap, .int .i64 ln], .slice bo nb bcap] w fun e w' => TuDid StAt S w g (Tu.tus s m t l body) e w' := by
  have hmf : ∀ (fn : Fn) (first cap : Array Value) (w : World), (Instr.makeFunc fn first cap).run Tryz.prog w = .ok (.func fn first cap) w := fun _ _ _ _ => rfl
  have hz1 : (w.alloc (.cells #[.string m, .string t, .int .i64 mi, .slice fo nf fcap, .int .i64 ln] 35)).heap.size = w.heap.size + 1 := World.size_alloc ..
  have hz2 : ((w.alloc (.cells #[.string m, .string t, .int .i64 mi, .slice fo nf fcap, .int .i64 ln] 35)).alloc (.cells #[.int .i64 0, .slice none 0 0, .slice none 0 0] 32)).heap.size = w.heap.size + 2 := by rw [World.size_alloc, hz1]
  have T3 : TbAt StAt S w g [.cells #[.string m, .string t, .int .i64 mi, .slice fo nf fcap, .int .i64 ln] 35 (0, 0), .cells #[.int .i64 0, .slice none 0 0, .slice none 0 0] 32 (0, 0), .cells #[.pointer (some ⟨g, 0, none⟩), .string m, .string t, .int .i64 mi, .slice fo nf fcap, .int .i64 ln, .slice bo nb bcap] 74 (0, 0)] s (fun k => S k ∧ k < w.heap.size) (((w.alloc (.cells #[.string m, .string t, .int .i64 mi, .slice fo nf fcap, .int .i64 ln] 35)).alloc (.cells #[.int .i64 0, .slice none 0 0, .slice none 0 0] 32)).alloc (.cells #[.pointer (some ⟨g, 0, none⟩), .string m, .string t, .int .i64 mi, .slice fo nf fcap, .int .i64 ln, .slice bo nb bcap] 74)) :=
    (((TbAt.start stLaw h).box stLaw rfl (fun k e => e.2) _).box stLaw hz1 (fun k e => by rw [hz1]; have := e.2; omega) _).box stLaw hz2 (fun k e => by rw [hz2]; have := e.2; omega) _
  have hb3 : Below w.heap.size w (((w.alloc (.cells #[.string m, .string t, .int .i64 mi, .slice fo nf fcap, .int .i64 ln] 35)).alloc (.cells #[.int .i64 0, .slice none 0 0, .slice none 0 0] 32)).alloc (.cells #[.pointer (some ⟨g, 0, none⟩), .string m, .string t, .int .i64 mi, .slice fo nf fcap, .int .i64 ln, .slice bo nb bcap] 74)) := then_ (then_ ((Below.refl _ w).alloc (Nat.le_refl _) _) ((Below.refl _ _).alloc (Nat.le_refl _) _)) ((Below.refl _ _).alloc (Nat.le_refl _) _)
  have HCa := Hid.mk' (caughtT_any (m := m) (t := t) (mi := mi) (ln := ln) (bo := bo) (bcap := bcap) (nb := nb) (T3.pw p) T3.sh ok hlg (hF.stay hb3) body hb (hB.stay hb3) hnb ht)
  have H3 := Hid.mk' T3
  clear T3 hb3 p h ok hlg hF hb hB hz1 hz2
  obtain ⟨R, hR⟩ : ∃ R, R = Tu.tus s m t l body := ⟨_, rfl⟩
  rw [← hR] at HCa ⊢
  clear hR
  obtain ⟨sr, st, lr⟩ := R
  go_enter Tryz.func10, Tryz.ntmps10
  go_wp2_with fail
  refine HCa.out.mono ?_
  rintro e w9 ⟨⟨ao9, cap9, n9, rfl, hn9, hO9⟩, hat9, hT9⟩
  have hH9 := H3.out.did hat9 hT9
  replace hO9 := hO9.mono (Nat.le_trans (Nat.le_add_right _ _) H3.out.sz)
  obtain ⟨⟨z0, z1, z2, y0, y1, y2⟩, HE⟩ := hH9.ends stLaw (i := 1) rfl (b := w.heap.size + 1) (by first | rfl | omega) (st := st) (sti := (st : Int)) rfl hn9 (Nat.le_refl _) hO9 (Below.refl w9.heap.size w9)
  clear hn9 hO9 hat9 hT9 hH9
  go_wp2
  generalize (((w9.setCell ⟨w.heap.size + 1, 0, none⟩ (.int .i64 (st : Int))).setCell ⟨w.heap.size + 1, 1, none⟩ (.slice ao9 n9 cap9)).setCell ⟨w.heap.size + 1, 2, none⟩ (.slice none 0 0)) = wf at *
  obtain ⟨q0, q1, q2, q3⟩ := HE.out
  refine bodyPost_ret (v := .agg #[.int .i64 (st : Int), .slice ao9 n9 cap9, .slice none 0 0]) (by simp [results, Tryz.results10, go_sem, q0, q1, q2]) rfl ?_
  exact q3
end
theorem doIs {w0 : World} (hP : PowAt w0) : DoIs w0 := fun hb hS h ok hlg _ _ _ _ _ _ _ hl hN hs _ _ body hB hnb _ ht =>
  doT_any ⟨hP, hb, hS⟩ h ok hlg ⟨hl, rfl, hN, hs⟩ body rfl hB hnb ht
end Go.Proofs.YtdclmpdjjkjfjaaGreatDoor
