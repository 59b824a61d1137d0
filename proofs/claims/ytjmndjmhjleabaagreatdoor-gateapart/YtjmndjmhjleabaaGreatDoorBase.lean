/- Small things that every walk wants. -/
import Derived.Test.YtjmndjmhjleabaaGreatDoorAl
import Derived.Test.YtjmndjmhjleabaaGreatDoorAm
import Derived.WalkKit
import Derived.WalkSpells
import Derived.WalkLawsBesides
import Derived.Deep.QuietTactic
import Derived.BigQuiet
import Derived.Laws.IdiomStrings
import Derived.Lib.IndexBytes
import Derived.Lib.Strings
namespace Go.Proofs.YtjmndjmhjleabaaGreatDoor
open Go.RowKit
theorem iB {a b:Bool}(h:a=b):Ending.returned (.bool a)=.returned (.bool b):=by rw[h]
theorem uN {k:IntKind}{a b:Int}(h:a=b):Ending.returned (.int k a)=.returned (.int k b):=by rw[h]
theorem qE {a b:ay}(h:a=b):Ending.returned (.string a)=.returned (.string b):=by rw[h]
theorem nL {k:IntKind}{a:Int}{b:Bool}{p:Int×Bool}(h:p=(a,b)):Ending.returned (.tuple #[.int k a,.bool b])=.returned (.tuple #[.int k p.1,.bool p.2]):=by rw[h]
theorem gY {fn:Func}{t u v x:Tmp}(h:fn.results=#[.tmp t,.tmp u,.tmp v,.tmp x])(tmps:Array Value)(P:Program)(w:World):
 (results fn tmps).run P w=.ok (.tuple #[tmps.getD t undef,tmps.getD u undef,tmps.getD v undef,tmps.getD x undef]) w:=by
 simp[results,h]
theorem Hid.mk' {p:Prop}(h:p):Hid p:=h
theorem lZ {x:Int}(h0:-9223372036854775808<=x)(h1:x<=9223372036854775807):IntKind.i64.wrap x=x:=by rw[IntKind.wrap_i64];omega
theorem Ia {x:Int}(h0:-9223372036854775808<=x)(h1:x<=9223372036854775807):wrap64 x=x:=by unfold wrap64;omega
theorem C8 {a b:UInt8}(h:a≠b):((a.toNat:Int) != b.toNat)=true:=by
 rw[cZ];intro e;exact h (dR.1 (by omega))
theorem Qq {a b:UInt8}(h:a=b):((a.toNat:Int) != b.toNat)=false:=by subst h;simp
theorem kZ {a b:UInt8}(h:a≠b):((a.toNat:Int)==b.toNat)=false:=by
 rw[aS];intro e;exact h (dR.1 (by omega))
theorem then_ {w a b:World}(h:aj w a)(k:aj a b):aj w b:=h.trans (k.mono h.size)
theorem iU {w a:World}(h:∃n,a=w.drewN n):aj w a:=by
 obtain⟨n,rfl⟩:=h;exact⟨rfl,rfl,rfl,aM _,fun _ _=>rfl⟩
def AR:Value->Nat | .string x=>x.size | _=>0
def rQ (p:av×Nat):Value:=.tuple #[.string ⟨p.1.toArray⟩,.int .i64 (p.2:Int)]
theorem ql {v:Value}{p q:av×Nat}(hq:q=p)(h:v=rQ p):Ending.returned v=.returned (rQ q):=by rw[h,hq]
theorem RN {w:World}{o:Obj}{w':World}(h:∃n,w'=(w.alloc o).drewN n):aj w w':=by
 obtain⟨n,rfl⟩:=h;exact((fJ _ _).alloc (aM _) _).trans ⟨rfl,rfl,rfl,aM _,fun _ _=>rfl⟩
theorem H9 {p : Prop}(h : p): Hid p := h
theorem _root_.Go.RowKit.Hid.o {p : Prop}(h : Hid p): p := h
end Go.Proofs.YtjmndjmhjleabaaGreatDoor