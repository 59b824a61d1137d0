/- Small things that every walk wants. -/
import Derived.WalkKit
import Derived.WalkSpells
import Derived.WalkLawsBesides
import Derived.Deep.QuietTactic
import Derived.BigQuiet
import Derived.Laws.IdiomStrings
import Derived.Lib.IndexBytes
import Derived.Lib.Strings
namespace Go.Proofs.YtjmndjmhjleabaaGreatDoor
open Go.RowKit
theorem aO {a b:Bool} (h:a=b):Ending.returned (.bool a)=.returned (.bool b):=by rw [h]
theorem oO {k:IntKind} {a b:Int} (h:a=b):Ending.returned (.int k a)=.returned (.int k b):=by rw [h]
theorem lq {a b:ByteArray} (h:a=b):Ending.returned (.string a)=.returned (.string b):=by rw [h]
theorem iZ {k:IntKind} {a:Int} {b:Bool} {p:Int×Bool} (h:p=(a,b)):Ending.returned (.tuple #[.int k a,.bool b])=.returned (.tuple #[.int k p.1,.bool p.2]):=by rw [h]
theorem aH {fn:Func} {t u v x:Tmp} (h:fn.results=#[.tmp t,.tmp u,.tmp v,.tmp x]) (tmps:Array Value) (P:Program) (w:World) :
 (results fn tmps).run P w=.ok (.tuple #[tmps.getD t undef,tmps.getD u undef,tmps.getD v undef,tmps.getD x undef]) w:=by
 simp [results,h]
theorem Hid.mk' {p:Prop} (h:p):Hid p:=h
theorem gN {x:Int} (h0:-9223372036854775808≤x) (h1:x≤9223372036854775807):IntKind.i64.wrap x=x:=by rw [IntKind.wrap_i64];omega
theorem DZ {x:Int} (h0:-9223372036854775808≤x) (h1:x≤9223372036854775807):wrap64 x=x:=by unfold wrap64;omega
theorem zh {a b:UInt8} (h:a≠b):((a.toNat:Int) != b.toNat)=true:=by
 rw [bne_iff_ne];intro e;exact h (UInt8.toNat_inj.1 (by omega))
theorem M6 {a b:UInt8} (h:a=b):((a.toNat:Int) != b.toNat)=false:=by subst h;simp
theorem fJ {a b:UInt8} (h:a≠b):((a.toNat:Int)==b.toNat)=false:=by
 rw [beq_eq_false_iff_ne];intro e;exact h (UInt8.toNat_inj.1 (by omega))
theorem then_ {w a b:World} (h:Below w.heap.size w a) (k:Below a.heap.size a b):Below w.heap.size w b:=h.trans (k.mono h.size)
theorem bD {w a:World} (h:∃ n,a=w.drewN n):Below w.heap.size w a:=by
 obtain ⟨n,rfl⟩:=h;exact ⟨rfl,rfl,rfl,Nat.le_refl _,fun _ _=>rfl⟩
def wM:Value→Nat | .string x=>x.size | _=>0
def mH (p:List UInt8×Nat):Value:=.tuple #[.string ⟨p.1.toArray⟩,.int .i64 (p.2:Int)]
theorem kQ {v:Value} {p q:List UInt8×Nat} (hq:q=p) (h:v=mH p):Ending.returned v=.returned (mH q):=by rw [h,hq]
theorem OA {w:World} {o:Obj} {w':World} (h:∃ n,w'=(w.alloc o).drewN n):Below w.heap.size w w':=by
 obtain ⟨n,rfl⟩:=h;exact ((Below.refl _ _).alloc (Nat.le_refl _) _).trans ⟨rfl,rfl,rfl,Nat.le_refl _,fun _ _=>rfl⟩
theorem H9 {p : Prop} (h : p) : Hid p := h
theorem _root_.Go.RowKit.Hid.o {p : Prop} (h : Hid p) : p := h
end Go.Proofs.YtjmndjmhjleabaaGreatDoor