/- Small texts, one behind the other: PlainSA, PlainTu, PlainTx, PlainTp. -/
import Derived.Test.YtjmndjmhjleabaaGreatDoorAl
import Derived.Test.YtjmndjmhjleabaaGreatDoorPk4
import Derived.Test.YtjmndjmhjleabaaGreatDoorPk9
namespace Go.Proofs.YtjmndjmhjleabaaGreatDoor.Sr
def Yo (l:av):ay:=⟨l.toArray⟩
theorem Vg (l:av):(Yo l).size=l.length:=by simp[Yo,ByteArray.size]
structure Sh where
 h:Sp.St
 log:av
 sure:Nat
def new:Sh:=⟨Sp.new,[],0⟩
def made (s:Sp.St)(size:Int)(m:ay):Sp.St×Nat:=((Sp.create s size m).1,(Sp.create s size m).2.2)
def write (s:Sh)(r:Sp.St×Nat)(e:Jn.E):Sh×Nat :=
 if r.2≠0 then (s,r.2) else if Jn.fits e=false then (s,1) else if 100000<s.log.length+(Jn.enc e).length then (s,16) else (⟨r.1,s.log++Jn.enc e,s.sure⟩,0)
def create (s:Sh)(size:Int)(m:ay):Sh×Nat:=write s (made s.h size m) ⟨1,s.h.last+1,size,m.data.toList⟩
def Du (s:Sh)(c:Nat):Int:=if c=0 then s.h.last+1 else 0
def append (s:Sh)(id off:Int)(b:av):Sh×Nat:=write s (Sp.append s.h id off b) ⟨2,id,0,b⟩
def declare (s:Sh)(id size:Int):Sh×Nat:=write s (Sp.declare s.h id size) ⟨3,id,size,[]⟩
def drop (s:Sh)(id:Int):Sh×Nat:=write s (Sp.drop s.h id) ⟨4,id,0,[]⟩
def sync (s:Sh):Sh:=⟨s.h,s.log,s.log.length⟩
structure Ok (s:Sh):Prop where
 h:Sp.Ok s.h
 last:s.h.last<=s.log.length
 sure:s.sure<=s.log.length
 few:s.log.length<=100000
theorem Ok.new:Ok new:=⟨Sp.Ok.new,by simp[Sr.new,Sp.new],by simp[Sr.new],by simp[Sr.new]⟩
theorem Ok.Km {s:Sh}(h:Ok s):s.h.last<=100000:=by have:=h.last;have:=h.few;omega
theorem YM {s:Sp.St}(h:Sp.Ok s)(size:Int)(m:ay):Sp.Ok (made s size m).1:=h.create size m
theorem Rk (s:Sp.St)(size:Int)(m:ay):(made s size m).1.last<=s.last+1:=Sp.Dr s size m
theorem uE {s:Sh}{r:Sp.St×Nat}{e:Jn.E}(h:r.2≠0):write s r e=(s,r.2):=by unfold write;rw[if_pos h]
theorem xu {s:Sh}{r:Sp.St×Nat}{e:Jn.E}(h:r.2=0)(hf:Jn.fits e=false):write s r e=(s,1):=by unfold write;rw[if_neg (by simpa using h),if_pos hf]
theorem uF {s:Sh}{r:Sp.St×Nat}{e:Jn.E}(h:r.2=0)(hf:Jn.fits e=true)(hl:100000<s.log.length+(Jn.enc e).length):write s r e=(s,16):=by unfold write;rw[if_neg (by simpa using h),if_neg (by simp[hf]),if_pos hl]
theorem xw {s:Sh}{r:Sp.St×Nat}{e:Jn.E}(h:r.2=0)(hf:Jn.fits e=true)(hl:¬100000<s.log.length+(Jn.enc e).length):write s r e=(⟨r.1,s.log++Jn.enc e,s.sure⟩,0):=by unfold write;rw[if_neg (by simpa using h),if_neg (by simp[hf]),if_neg hl]
theorem Ok.write {s:Sh}(h:Ok s){r:Sp.St×Nat}(hr:Sp.Ok r.1)(hl:r.1.last<=s.h.last+1)(e:Jn.E):Ok (write s r e).1:=by
 unfold Sr.write;split
 . exact h
 . split
   . exact h
   . split
     . exact h
     . rename_i h3;have h1:=h.last;have h2:=h.sure
       have hp:=Jn.YL e;refine⟨hr,?_,?_,?_⟩
       . simp only[aW];omega
       . simp only[aW];omega
       . simp only[aW];omega
theorem Ok.create {s:Sh}(h:Ok s)(size:Int)(m:ay):Ok (create s size m).1:=h.write (YM h.h _ _) (Rk _ _ _) _
theorem Ok.append {s:Sh}(h:Ok s)(id off:Int)(b:av):Ok (append s id off b).1:=h.write (h.h.append ..) (by rw[Sp.Kk];omega) _
theorem Ok.declare {s:Sh}(h:Ok s)(id size:Int):Ok (declare s id size).1:=h.write (h.h.declare ..) (by rw[Sp.I6];omega) _
theorem Ok.drop {s:Sh}(h:Ok s)(id:Int):Ok (drop s id).1:=h.write (h.h.drop ..) (by rw[Sp.Ri];omega) _
theorem Ok.sync {s:Sh}(h:Ok s):Ok (sync s):=⟨h.h,h.last,aM _,h.few⟩
end Go.Proofs.YtjmndjmhjleabaaGreatDoor.Sr
namespace Go.Proofs.YtjmndjmhjleabaaGreatDoor.Tu
def sZ:ay:=⟨#[47,102,105,108,101,115]⟩
def lI:ay:=⟨#[47,102,105,108,101,115,47]⟩
def abA:ay:=⟨#[79,80,84,73,79,78,83]⟩
def GV:ay:=⟨#[80,79,83,84]⟩
def Ku:ay:=⟨#[72,69,65,68]⟩
def Vl:ay:=⟨#[68,69,76,69,84,69]⟩
def Vm:ay:=⟨#[80,65,84,67,72]⟩
def YO:ay:=⟨#[116,117,115,45,114,101,115,117,109,97,98,108,101]⟩
def Dv:ay:=⟨#[117,112,108,111,97,100,45,108,101,110,103,116,104]⟩
def Vn:ay:=⟨#[117,112,108,111,97,100,45,100,101,102,101,114,45,108,101,110,103,116,104]⟩
def nUM:ay:=⟨#[117,112,108,111,97,100,45,109,101,116,97,100,97,116,97]⟩
def MV:ay:=⟨#[99,111,110,116,101,110,116,45,116,121,112,101]⟩
def nUO:ay:=⟨#[117,112,108,111,97,100,45,111,102,102,115,101,116]⟩
def AB:ay:=⟨#[84,117,115,45,82,101,115,117,109,97,98,108,101]⟩
def jP:ay:=⟨#[49,46,48,46,48]⟩
def yg:ay:=⟨#[84,117,115,45,86,101,114,115,105,111,110]⟩
def Vo:ay:=⟨#[84,117,115,45,77,97,120,45,83,105,122,101]⟩
def vT:ay:=⟨#[50,48,48,48]⟩
def Vp:ay:=⟨#[84,117,115,45,69,120,116,101,110,115,105,111,110]⟩
def Vq:ay:=⟨#[99,114,101,97,116,105,111,110,44,99,114,101,97,116,105,111,110,45,100,101,102,101,114,45,108,101,110,103,116,104,44,116,101,114,109,105,110,97,116,105,111,110]⟩
def fLo:ay:=⟨#[76,111,99,97,116,105,111,110]⟩
def vE:ay:=⟨#[85,112,108,111,97,100,45,79,102,102,115,101,116]⟩
def Dw:ay:=⟨#[85,112,108,111,97,100,45,76,101,110,103,116,104]⟩
def Dx:ay:=⟨#[85,112,108,111,97,100,45,68,101,102,101,114,45,76,101,110,103,116,104]⟩
def yL:ay:=⟨#[49]⟩
def Nk:ay:=⟨#[67,97,99,104,101,45,67,111,110,116,114,111,108]⟩
def Nl:ay:=⟨#[110,111,45,115,116,111,114,101]⟩
def MW:ay:=⟨#[85,112,108,111,97,100,45,77,101,116,97,100,97,116,97]⟩
def ahC:ay:=⟨#[97,112,112,108,105,99,97,116,105,111,110,47,111,102,102,115,101,116,43,111,99,116,101,116,45,115,116,114,101,97,109]⟩
def one (vs:List ay):av×Nat :=
 match vs with
 | []=>([],10)
 | [v]=>(v.data.toList,0)
 | _=>([],9)
def vals (name:ay)(l:au):List ay:=(l.filter fun p=>decide (Ch.lower p.1.data.toList=Ch.lower name.data.toList)).map (·.2)
def jB (r:av×Nat):Int×Bool:=if r.2=10 then (-1,true) else ((Ch.number 10 9 r.1).1,(Ch.number 10 9 r.1).2&&decide (r.2=0))
abbrev zk:=Nat×au
def said (st:Nat)(l:au):zk:=(st,(AB,jP)::l)
def status (c:Nat):Nat:=if c=10 then 404 else if c=17∨c=19 then 409 else if c=4 then 413 else if c=8∨c=16 then 507 else 400
def dec (n:Nat):ay:=⟨(Ch.jH 8 n).toArray⟩
def YP (t:ay):Option Int :=
 if 7<t.size∧t.data.toList.take 7=lI.data.toList∧(Ch.number 10 9 (t.data.toList.drop 7)).2=true∧Ch.jH 8 (Ch.number 10 9 (t.data.toList.drop 7)).1.toNat=t.data.toList.drop 7 then some (Ch.number 10 9 (t.data.toList.drop 7)).1 else none
def AJ (s:Sp.St)(t:ay):Option Sp.Up:=match YP t with
 | none=>none
 | some n => match Sp.place s.l n with
   | none=>none
   | some i=>s.l[i]?
def post (s:Sr.Sh)(m:ay)(l:au):Sr.Sh×zk :=
 if m≠GV then (s,said 405 [])
 else if (jB (one (vals Dv l))).2=false then (s,said 400 [])
 else if (one (vals Vn l)).2=9∨((one (vals Vn l)).2=0∧(one (vals Vn l)).1≠yL.data.toList)∨(0<=(jB (one (vals Dv l))).1<->(one (vals Vn l)).2=0) then (s,said 400 [])
 else if (one (vals nUM l)).2=9 then (s,said 400 [])
 else if (Sr.create s (jB (one (vals Dv l))).1 (Sr.Yo (one (vals nUM l)).1)).2≠0 then (s,said (status (Sr.create s (jB (one (vals Dv l))).1 (Sr.Yo (one (vals nUM l)).1)).2) [])
 else (Sr.sync (Sr.create s (jB (one (vals Dv l))).1 (Sr.Yo (one (vals nUM l)).1)).1,said 201 [(fLo,lI++dec (s.h.last+1).toNat)])
def head (u:Sp.Up):zk:=said 200 ((vE,dec u.bytes.length)::(if u.size<0 then (Dx,yL) else (Dw,dec u.size.toNat))::(Nk,Nl)::(if u.note.size=0 then [] else [(MW,u.note)]))
def Dy (v:av):Bool:=match Pm.ku v with
 | .inl _=>false
 | .inr x=>decide (x.1=ahC.data.toList)
def tell (u:Sp.Up)(l:au):Prop:=0<=(jB (one (vals Dv l))).1∧u.size<0
instance (u:Sp.Up) (l:au):Decidable (tell u l):=by unfold tell;exact inferInstance
def patch (s:Sr.Sh)(u:Sp.Up)(l:au)(body:av):Sr.Sh×zk :=
 if (one (vals MV l)).2=9 then (s,said 400 [])
 else if Dy (one (vals MV l)).1=false then (s,said 415 [])
 else if (jB (one (vals nUO l))).2=false∨(jB (one (vals nUO l))).1<0 then (s,said 400 [])
 else if (jB (one (vals nUO l))).1≠u.bytes.length then (s,said 409 [])
 else if (jB (one (vals Dv l))).2=false∨(0<=(jB (one (vals Dv l))).1∧0<=u.size∧(jB (one (vals Dv l))).1≠u.size) then (s,said 400 [])
 else if tell u l∧(2000<(jB (one (vals Dv l))).1∨(jB (one (vals Dv l))).1<u.bytes.length+body.length) then (s,said 413 [])
 else if 100000<s.log.length+(body.length+60) then (s,said 507 [])
 else if (Sr.append s u.id u.bytes.length body).2≠0 then (s,said (status (Sr.append s u.id u.bytes.length body).2) [])
 else (Sr.sync (if tell u l then (Sr.declare (Sr.append s u.id u.bytes.length body).1 u.id (jB (one (vals Dv l))).1).1 else (Sr.append s u.id u.bytes.length body).1),said 204 [(vE,dec (u.bytes.length+body.length))])
/-! ### what holds of it -/
theorem oK {s:Sr.Sh}{r:Sp.St×Nat}{e:Jn.E}(h:(Sr.write s r e).2≠0):(Sr.write s r e).1=s:=by
 unfold Sr.write at h ⊢;split
 . rfl
 . split
   . rfl
   . split
     . rfl
     . rename_i h1 h2 h3;rw[if_neg h1,if_neg h2,if_neg h3] at h;exact absurd rfl h
theorem Dz {s:Sp.St}{t:ay}{u:Sp.Up}(h:AJ s t=some u):u∈s.l∧∃n i,YP t=some n∧Sp.place s.l n=some i∧s.l[i]? = some u∧u.id=n:=by
 unfold AJ at h;split at h
 . cases h
 . rename_i n hn;split at h
   . cases h
   . rename_i i hi;obtain⟨x,hx,hid⟩:=Sp.Dq s.l n i hi;rw[hx] at h;injection h with h;subst h;exact⟨dL hx,n,i,hn,hi,hx,hid⟩
theorem YQ {s:Sr.Sh}(h:Sr.Ok s)(m:ay)(l:au):Sr.Ok (post s m l).1:=by
 unfold post;repeat' split
 all_goals first
  | exact h
  | exact(h.create _ _).sync
theorem Vr {s:Sr.Sh}(h:Sr.Ok s)(u:Sp.Up)(l:au)(body:av):Sr.Ok (patch s u l body).1:=by
 unfold patch;repeat' split
 all_goals first
  | exact h
  | exact((h.append _ _ _).declare _ _).sync
  | exact(h.append _ _ _).sync
end Go.Proofs.YtjmndjmhjleabaaGreatDoor.Tu
namespace Go.Proofs.YtjmndjmhjleabaaGreatDoor.Tu
open Sr
def R9 (s:Sh)(u:Sp.Up)(m:ay)(l:au)(body:av):Sh×zk :=
 if m=Ku then (s,head u)
 else if m=Vl then (Sr.sync (Sr.drop s u.id).1,said 204 [])
 else if m=Vm then patch s u l body else (s,said 405 [])
def iG (s:Sh)(m t:ay)(l:au)(body:av):Sh×zk :=
 if t=sZ∧m=abA then (s,said 204 [(yg,jP),(Vo,vT),(Vp,Vq)])
 else if (one (vals YO l)).2=9 then (s,said 400 [])
 else if (one (vals YO l)).1≠jP.data.toList then (s,said 412 [(yg,jP)])
 else if t=sZ then post s m l
 else match AJ s.h t with
  | none=>(s,said 404 [])
  | some u=>R9 s u m l body
theorem Zl {s:Sh}(h:Sr.Ok s)(u:Sp.Up)(m:ay)(l:au)(body:av):Sr.Ok (R9 s u m l body).1:=by
 unfold R9;repeat' split
 all_goals first
  | exact h
  | exact(h.drop _).sync
  | exact Vr h u l body
theorem Qv {s:Sh}(h:Sr.Ok s)(m t:ay)(l:au)(body:av):Sr.Ok (iG s m t l body).1:=by
 unfold iG;split
 . exact h
 . split
   . exact h
   . split
     . exact h
     . split
       . exact YQ h m l
       . split
         . exact h
         . exact Zl h _ m l body
end Go.Proofs.YtjmndjmhjleabaaGreatDoor.Tu