/- Small things that every walk wants. -/
import Derived.Test.YtjmndjmhjleabaaGreatDoorAl
import Derived.Test.YtjmndjmhjleabaaGreatDoorAm
import Derived.WalkSpells
import Derived.WalkLawsBesides
import Derived.BigQuiet
import Derived.Lib.IndexBytes
open Go.Value renaming string->V
open Go.Ending renaming returned->Y
namespace Go.Proofs.YtjmndjmhjleabaaGreatDoor
open Go.RowKit
theorem iA {a b:Bool}(h:a=b):Ending.returned (.bool a)=Y (.bool b):=by rw[h]
theorem uM {k:IntKind}{a b:Int}(h:a=b):Ending.returned (.int k a)=Y (.int k b):=by rw[h]
theorem qD {a b:av}(h:a=b):Ending.returned (V a)=Y (V b):=by rw[h]
theorem nK {k:IntKind}{a:Int}{b:Bool}{p:Int×Bool}(h:p=(a,b)):Ending.returned (.tuple #[.int k a,.bool b])=Y (.tuple #[.int k p.1,.bool p.2]):=by rw[h]
theorem gX {a:Func}{t u v x:Tmp}(h:a.results=#[.tmp t,.tmp u,.tmp v,.tmp x])(tmps:Array Value)(P:Program)(w:World):
 (results a tmps).run P w=.ok (.tuple #[tmps.getD t undef,tmps.getD u undef,tmps.getD v undef,tmps.getD x undef]) w:=by
 simp[results,h]
theorem Hid.mk' {p:Prop}(h:p):Hid p:=h
theorem lY {x:Int}(a:-9223372036854775808<=x)(b:x<=9223372036854775807):IntKind.i64.wrap x=x:=by rw[IntKind.wrap_i64];omega
theorem Hy {x:Int}(a:-9223372036854775808<=x)(b:x<=9223372036854775807):wrap64 x=x:=by unfold wrap64;omega
theorem CZ {a b:UInt8}(h:a≠b):((a.toNat:Int) != b.toNat)=true:=by
 rw[cO];intro e;exact h (dQ.1 (by omega))
theorem Qp {a b:UInt8}(h:a=b):((a.toNat:Int) != b.toNat)=false:=by subst h;simp
theorem kY {a b:UInt8}(h:a≠b):((a.toNat:Int)==b.toNat)=false:=by
 rw[aR];intro e;exact h (dQ.1 (by omega))
theorem then_ {w a b:World}(h:Below w.heap.size w a)(k:Below a.heap.size a b):Below w.heap.size w b:=h.trans (k.mono h.size)
theorem iT {w a:World}(h:∃n,a=w.drewN n):Below w.heap.size w a:=by
 obtain⟨n,rfl⟩:=h;exact⟨rfl,rfl,rfl,aL _,fun _ _=>rfl⟩
def AQ:Value->Nat | V x=>x.size | _=>0
def rP (p:au×Nat):Value:=.tuple #[V ⟨p.1.toArray⟩,.int .i64 (p.2:Int)]
theorem qj {v:Value}{p q:au×Nat}(a:q=p)(h:v=rP p):Ending.returned v=Y (rP q):=by rw[h,a]
theorem RL {w:World}{o:Obj}{w':World}(h:∃n,w'=(w.alloc o).drewN n):Below w.heap.size w w':=by
 obtain⟨n,rfl⟩:=h;exact((fI _ _).alloc (aL _) _).trans ⟨rfl,rfl,rfl,aL _,fun _ _=>rfl⟩
theorem H9 {p : Prop}(h : p): Hid p := h
theorem _root_.Go.RowKit.Hid.o {p : Prop}(h : Hid p): p := h
end Go.Proofs.YtjmndjmhjleabaaGreatDoor