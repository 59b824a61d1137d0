/- Small texts, one behind the other: PlainSA, PlainTu, PlainTx, PlainTp. -/
import Derived.Test.YtjmndjmhjleabaaGreatDoorPk4
import Derived.Test.YtjmndjmhjleabaaGreatDoorPk9
open Bool renaming false->F
namespace Go.Proofs.YtjmndjmhjleabaaGreatDoor.Sr
def Yn (l:au):av:=⟨l.toArray⟩
theorem Vf (l:au):(Yn l).size=l.length:=by simp[Yn,ByteArray.size]
structure Sh where
 h:Sp.St
 log:au
 sure:Nat
def new:Sh:=⟨Sp.new,[],0⟩
def made (s:Sp.St)(size:Int)(m:av):Sp.St×Nat:=((Sp.create s size m).1,(Sp.create s size m).2.2)
def write (s:Sh)(r:Sp.St×Nat)(e:Jn.E):Sh×Nat :=
 if r.2≠0 then (s,r.2) else if Jn.fits e=F then (s,1) else if 100000<s.log.length+(Jn.enc e).length then (s,16) else (⟨r.1,s.log++Jn.enc e,s.sure⟩,0)
def create (s:Sh)(size:Int)(m:av):Sh×Nat:=write s (made s.h size m) ⟨1,s.h.last+1,size,m.data.toList⟩
def Dt (s:Sh)(c:Nat):Int:=if c=0 then s.h.last+1 else 0
def append (s:Sh)(id off:Int)(b:au):Sh×Nat:=write s (Sp.append s.h id off b) ⟨2,id,0,b⟩
def declare (s:Sh)(id size:Int):Sh×Nat:=write s (Sp.declare s.h id size) ⟨3,id,size,[]⟩
def drop (s:Sh)(id:Int):Sh×Nat:=write s (Sp.drop s.h id) ⟨4,id,0,[]⟩
def sync (s:Sh):Sh:=⟨s.h,s.log,s.log.length⟩
structure Ok (s:Sh):Prop where
 h:Sp.Ok s.h
 last:s.h.last<=s.log.length
 sure:s.sure<=s.log.length
 few:s.log.length<=100000
theorem Ok.new:Ok new:=⟨Sp.Ok.new,by simp[Sr.new,Sp.new],by simp[Sr.new],by simp[Sr.new]⟩
theorem Ok.Kl {s:Sh}(h:Ok s):s.h.last<=100000:=by have:=h.last;have:=h.few;omega
theorem YL {s:Sp.St}(h:Sp.Ok s)(size:Int)(m:av):Sp.Ok (made s size m).1:=h.create size m
theorem Rj (s:Sp.St)(size:Int)(m:av):(made s size m).1.last<=s.last+1:=Sp.Dq s size m
theorem uD {s:Sh}{r:Sp.St×Nat}{e:Jn.E}(h:r.2≠0):write s r e=(s,r.2):=by unfold write;rw[if_pos h]
theorem xq {s:Sh}{r:Sp.St×Nat}{e:Jn.E}(h:r.2=0)(a:Jn.fits e=F):write s r e=(s,1):=by unfold write;rw[if_neg (by simpa using h),if_pos a]
theorem uE {s:Sh}{r:Sp.St×Nat}{e:Jn.E}(h:r.2=0)(a:Jn.fits e=true)(b:100000<s.log.length+(Jn.enc e).length):write s r e=(s,16):=by unfold write;rw[if_neg (by simpa using h),if_neg (by simp[a]),if_pos b]
theorem xu {s:Sh}{r:Sp.St×Nat}{e:Jn.E}(h:r.2=0)(a:Jn.fits e=true)(b:¬100000<s.log.length+(Jn.enc e).length):write s r e=(⟨r.1,s.log++Jn.enc e,s.sure⟩,0):=by unfold write;rw[if_neg (by simpa using h),if_neg (by simp[a]),if_neg b]
theorem Ok.write {s:Sh}(h:Ok s){r:Sp.St×Nat}(a:Sp.Ok r.1)(b:r.1.last<=s.h.last+1)(e:Jn.E):Ok (write s r e).1:=by
 unfold Sr.write;split
 . exact h
 . split
   . exact h
   . split
     . exact h
     . rename_i c;have d:=h.last;have f:=h.sure
       have g:=Jn.YK e;refine⟨a,?_,?_,?_⟩
       . simp only[aV];omega
       . simp only[aV];omega
       . simp only[aV];omega
theorem Ok.create {s:Sh}(h:Ok s)(size:Int)(m:av):Ok (create s size m).1:=h.write (YL h.h _ _) (Rj _ _ _) _
theorem Ok.append {s:Sh}(h:Ok s)(c a:Int)(b:au):Ok (append s c a b).1:=h.write (h.h.append ..) (by rw[Sp.Kj];omega) _
theorem Ok.declare {s:Sh}(h:Ok s)(a size:Int):Ok (declare s a size).1:=h.write (h.h.declare ..) (by rw[Sp.I5];omega) _
theorem Ok.drop {s:Sh}(h:Ok s)(a:Int):Ok (drop s a).1:=h.write (h.h.drop ..) (by rw[Sp.Rh];omega) _
theorem Ok.sync {s:Sh}(h:Ok s):Ok (sync s):=⟨h.h,h.last,aL _,h.few⟩
end Go.Proofs.YtjmndjmhjleabaaGreatDoor.Sr
namespace Go.Proofs.YtjmndjmhjleabaaGreatDoor.Tu
def sW:av:=⟨#[47,102,105,108,101,115]⟩
def lH:av:=⟨#[47,102,105,108,101,115,47]⟩
def abz:av:=⟨#[79,80,84,73,79,78,83]⟩
def GU:av:=⟨#[80,79,83,84]⟩
def Kt:av:=⟨#[72,69,65,68]⟩
def Vk:av:=⟨#[68,69,76,69,84,69]⟩
def Vl:av:=⟨#[80,65,84,67,72]⟩
def YN:av:=⟨#[116,117,115,45,114,101,115,117,109,97,98,108,101]⟩
def Du:av:=⟨#[117,112,108,111,97,100,45,108,101,110,103,116,104]⟩
def Vm:av:=⟨#[117,112,108,111,97,100,45,100,101,102,101,114,45,108,101,110,103,116,104]⟩
def nUM:av:=⟨#[117,112,108,111,97,100,45,109,101,116,97,100,97,116,97]⟩
def MU:av:=⟨#[99,111,110,116,101,110,116,45,116,121,112,101]⟩
def nUO:av:=⟨#[117,112,108,111,97,100,45,111,102,102,115,101,116]⟩
def AA:av:=⟨#[84,117,115,45,82,101,115,117,109,97,98,108,101]⟩
def jO:av:=⟨#[49,46,48,46,48]⟩
def yc:av:=⟨#[84,117,115,45,86,101,114,115,105,111,110]⟩
def Vn:av:=⟨#[84,117,115,45,77,97,120,45,83,105,122,101]⟩
def vS:av:=⟨#[50,48,48,48]⟩
def Vo:av:=⟨#[84,117,115,45,69,120,116,101,110,115,105,111,110]⟩
def Vp:av:=⟨#[99,114,101,97,116,105,111,110,44,99,114,101,97,116,105,111,110,45,100,101,102,101,114,45,108,101,110,103,116,104,44,116,101,114,109,105,110,97,116,105,111,110]⟩
def fLo:av:=⟨#[76,111,99,97,116,105,111,110]⟩
def vD:av:=⟨#[85,112,108,111,97,100,45,79,102,102,115,101,116]⟩
def Dv:av:=⟨#[85,112,108,111,97,100,45,76,101,110,103,116,104]⟩
def Dw:av:=⟨#[85,112,108,111,97,100,45,68,101,102,101,114,45,76,101,110,103,116,104]⟩
def yK:av:=⟨#[49]⟩
def Nj:av:=⟨#[67,97,99,104,101,45,67,111,110,116,114,111,108]⟩
def Nk:av:=⟨#[110,111,45,115,116,111,114,101]⟩
def MV:av:=⟨#[85,112,108,111,97,100,45,77,101,116,97,100,97,116,97]⟩
def ahB:av:=⟨#[97,112,112,108,105,99,97,116,105,111,110,47,111,102,102,115,101,116,43,111,99,116,101,116,45,115,116,114,101,97,109]⟩
def one (vs:List av):au×Nat :=
 match vs with
 | []=>([],10)
 | [v]=>(v.data.toList,0)
 | _=>([],9)
def vals (name:av)(l:ak):List av:=(l.filter fun p=>decide (Ch.lower p.1.data.toList=Ch.lower name.data.toList)).map (·.2)
def jA (r:au×Nat):Int×Bool:=if r.2=10 then (-1,true) else ((Ch.number 10 9 r.1).1,(Ch.number 10 9 r.1).2&&decide (r.2=0))
abbrev zi:=Nat×ak
def said (st:Nat)(l:ak):zi:=(st,(AA,jO)::l)
def status (c:Nat):Nat:=if c=10 then 404 else if c=17∨c=19 then 409 else if c=4 then 413 else if c=8∨c=16 then 507 else 400
def dec (n:Nat):av:=⟨(Ch.jG 8 n).toArray⟩
def YO (t:av):Option Int :=
 if 7<t.size∧t.data.toList.take 7=lH.data.toList∧(Ch.number 10 9 (t.data.toList.drop 7)).2=true∧Ch.jG 8 (Ch.number 10 9 (t.data.toList.drop 7)).1.toNat=t.data.toList.drop 7 then some (Ch.number 10 9 (t.data.toList.drop 7)).1 else none
def AB (s:Sp.St)(t:av):Option Sp.Up:=match YO t with
 | none=>none
 | some n => match Sp.place s.l n with
   | none=>none
   | some i=>s.l[i]?
def post (s:Sr.Sh)(m:av)(l:ak):Sr.Sh×zi :=
 if m≠GU then (s,said 405 [])
 else if (jA (one (vals Du l))).2=F then (s,said 400 [])
 else if (one (vals Vm l)).2=9∨((one (vals Vm l)).2=0∧(one (vals Vm l)).1≠yK.data.toList)∨(0<=(jA (one (vals Du l))).1<->(one (vals Vm l)).2=0) then (s,said 400 [])
 else if (one (vals nUM l)).2=9 then (s,said 400 [])
 else if (Sr.create s (jA (one (vals Du l))).1 (Sr.Yn (one (vals nUM l)).1)).2≠0 then (s,said (status (Sr.create s (jA (one (vals Du l))).1 (Sr.Yn (one (vals nUM l)).1)).2) [])
 else (Sr.sync (Sr.create s (jA (one (vals Du l))).1 (Sr.Yn (one (vals nUM l)).1)).1,said 201 [(fLo,lH++dec (s.h.last+1).toNat)])
def head (u:Sp.Up):zi:=said 200 ((vD,dec u.bytes.length)::(if u.size<0 then (Dw,yK) else (Dv,dec u.size.toNat))::(Nj,Nk)::(if u.note.size=0 then [] else [(MV,u.note)]))
def Dx (v:au):Bool:=match Pm.kr v with
 | .inl _=>F
 | .inr x=>decide (x.1=ahB.data.toList)
def tell (u:Sp.Up)(l:ak):Prop:=0<=(jA (one (vals Du l))).1∧u.size<0
instance (u:Sp.Up) (l:ak):Decidable (tell u l):=by unfold tell;exact inferInstance
def patch (s:Sr.Sh)(u:Sp.Up)(l:ak)(body:au):Sr.Sh×zi :=
 if (one (vals MU l)).2=9 then (s,said 400 [])
 else if Dx (one (vals MU l)).1=F then (s,said 415 [])
 else if (jA (one (vals nUO l))).2=F∨(jA (one (vals nUO l))).1<0 then (s,said 400 [])
 else if (jA (one (vals nUO l))).1≠u.bytes.length then (s,said 409 [])
 else if (jA (one (vals Du l))).2=F∨(0<=(jA (one (vals Du l))).1∧0<=u.size∧(jA (one (vals Du l))).1≠u.size) then (s,said 400 [])
 else if tell u l∧(2000<(jA (one (vals Du l))).1∨(jA (one (vals Du l))).1<u.bytes.length+body.length) then (s,said 413 [])
 else if 100000<s.log.length+(body.length+60) then (s,said 507 [])
 else if (Sr.append s u.id u.bytes.length body).2≠0 then (s,said (status (Sr.append s u.id u.bytes.length body).2) [])
 else (Sr.sync (if tell u l then (Sr.declare (Sr.append s u.id u.bytes.length body).1 u.id (jA (one (vals Du l))).1).1 else (Sr.append s u.id u.bytes.length body).1),said 204 [(vD,dec (u.bytes.length+body.length))])
/-! ### what holds of it -/
theorem oJ {s:Sr.Sh}{r:Sp.St×Nat}{e:Jn.E}(h:(Sr.write s r e).2≠0):(Sr.write s r e).1=s:=by
 unfold Sr.write at h ⊢;split
 . rfl
 . split
   . rfl
   . split
     . rfl
     . rename_i a b c;rw[if_neg a,if_neg b,if_neg c] at h;exact absurd rfl h
theorem Dy {s:Sp.St}{t:av}{u:Sp.Up}(h:AB s t=some u):u∈s.l∧∃n i,YO t=some n∧Sp.place s.l n=some i∧s.l[i]? = some u∧u.id=n:=by
 unfold AB at h;split at h
 . cases h
 . rename_i n d;split at h
   . cases h
   . rename_i i c;obtain⟨x,a,b⟩:=Sp.Dp s.l n i c;rw[a] at h;injection h with h;subst h;exact⟨dK a,n,i,d,c,a,b⟩
theorem YP {s:Sr.Sh}(h:Sr.Ok s)(m:av)(l:ak):Sr.Ok (post s m l).1:=by
 unfold post;repeat' split
 all_goals first
  | exact h
  | exact(h.create _ _).sync
theorem Vq {s:Sr.Sh}(h:Sr.Ok s)(u:Sp.Up)(l:ak)(body:au):Sr.Ok (patch s u l body).1:=by
 unfold patch;repeat' split
 all_goals first
  | exact h
  | exact((h.append _ _ _).declare _ _).sync
  | exact(h.append _ _ _).sync
end Go.Proofs.YtjmndjmhjleabaaGreatDoor.Tu
namespace Go.Proofs.YtjmndjmhjleabaaGreatDoor.Tu
open Sr
def R8 (s:Sh)(u:Sp.Up)(m:av)(l:ak)(body:au):Sh×zi :=
 if m=Kt then (s,head u)
 else if m=Vk then (Sr.sync (Sr.drop s u.id).1,said 204 [])
 else if m=Vl then patch s u l body else (s,said 405 [])
def iF (s:Sh)(m t:av)(l:ak)(body:au):Sh×zi :=
 if t=sW∧m=abz then (s,said 204 [(yc,jO),(Vn,vS),(Vo,Vp)])
 else if (one (vals YN l)).2=9 then (s,said 400 [])
 else if (one (vals YN l)).1≠jO.data.toList then (s,said 412 [(yc,jO)])
 else if t=sW then post s m l
 else match AB s.h t with
  | none=>(s,said 404 [])
  | some u=>R8 s u m l body
theorem Zk {s:Sh}(h:Sr.Ok s)(u:Sp.Up)(m:av)(l:ak)(body:au):Sr.Ok (R8 s u m l body).1:=by
 unfold R8;repeat' split
 all_goals first
  | exact h
  | exact(h.drop _).sync
  | exact Vq h u l body
theorem Qu {s:Sh}(h:Sr.Ok s)(m t:av)(l:ak)(body:au):Sr.Ok (iF s m t l body).1:=by
 unfold iF;split
 . exact h
 . split
   . exact h
   . split
     . exact h
     . split
       . exact YP h m l
       . split
         . exact h
         . exact Zk h _ m l body
end Go.Proofs.YtjmndjmhjleabaaGreatDoor.Tu