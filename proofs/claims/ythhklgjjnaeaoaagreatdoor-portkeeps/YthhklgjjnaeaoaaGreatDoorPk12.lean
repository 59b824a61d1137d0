/- Small texts, one behind the other: PlainSA, PlainTu, PlainTx, PlainTp, PlainSB, PlainTv, PlainSC. -/
import Derived.Test.YthhklgjjnaeaoaaGreatDoorPk4
import Derived.Test.YthhklgjjnaeaoaaGreatDoorPk9
open Bool renaming false->F
namespace Go.Proofs.YthhklgjjnaeaoaaGreatDoor.Sr
def ES (l:av):ay:=⟨l.toArray⟩
theorem U6 (m:ay):ES m.data.toList=m:=by cases m;simp[ES]
theorem U7 (l:av):(ES l).data.toList=l:=by simp[ES]
theorem JK (l:av):(ES l).size=l.length:=by simp[ES,ByteArray.size]
structure Sh where
 h:Sp.St
 log:av
 sure:Nat
def new:Sh:=⟨Sp.new,[],0⟩
def made (s:Sp.St)(size:Int)(m:ay):Sp.St×Nat:=((Sp.create s size m).1,(Sp.create s size m).2.2)
def lenOf (s:Sp.St)(id:Int):Nat:=match Sp.place s.l id with
 | none=>0
 | some i => match s.l[i]? with
   | none=>0
   | some u=>u.bytes.length
theorem MN {s:Sp.St}{a:Int}(h:Sp.place s.l a=none):lenOf s a=0:=by unfold lenOf;rw[h]
theorem CS {s:Sp.St}{a:Int}{i:Nat}(h:Sp.place s.l a=some i):lenOf s a=(s.l[i]'(Sp.lg h)).bytes.length:=by grind [Sp.place,lenOf]
def iT (s:Sp.St)(e:Jn.E):Sp.St×Nat :=
 if e.kind=1 then made s e.n (ES e.text) else if e.kind=2 then Sp.append s e.id (lenOf s e.id) e.text else if e.kind=3 then Sp.declare s e.id e.n else if e.kind=4 then Sp.drop s e.id else if e.kind=5 then Sp.begins s e.id else Sp.ends s e.id
def jw (s:Sp.St)(l:List Jn.E):Sp.St:=l.foldl (fun h e=>(iT h e).1) s
def write (s:Sh)(r:Sp.St×Nat)(e:Jn.E):Sh×Nat :=
 if r.2≠0 then (s,r.2) else if Jn.fits e=F then (s,1) else if 100000<s.log.length+(Jn.enc e).length then (s,16) else (⟨r.1,s.log++Jn.enc e,s.sure⟩,0)
def create (s:Sh)(size:Int)(m:ay):Sh×Nat:=write s (made s.h size m) ⟨1,s.h.last+1,size,m.data.toList⟩
def CU (s:Sh)(c:Nat):Int:=if c=0 then s.h.last+1 else 0
def append (s:Sh)(id off:Int)(b:av):Sh×Nat:=write s (Sp.append s.h id off b) ⟨2,id,0,b⟩
def declare (s:Sh)(id size:Int):Sh×Nat:=write s (Sp.declare s.h id size) ⟨3,id,size,[]⟩
def drop (s:Sh)(id:Int):Sh×Nat:=write s (Sp.drop s.h id) ⟨4,id,0,[]⟩
def begins (s:Sh)(id:Int):Sh×Nat:=write s (Sp.begins s.h id) ⟨5,id,0,[]⟩
def ends (s:Sh)(id:Int):Sh×Nat:=write s (Sp.ends s.h id) ⟨6,id,0,[]⟩
def sync (s:Sh):Sh:=⟨s.h,s.log,s.log.length⟩
def stays (keep:Int)(d:Nat):Nat:=min (max keep 0).toNat d
def left (s:Sh)(keep:Int):Nat:=s.sure+stays keep (s.log.length-s.sure)
def crash (s:Sh)(keep:Int):Sh:=⟨jw Sp.new (Jn.dec (s.log.take (left s keep))).1,s.log.take (Jn.dec (s.log.take (left s keep))).2,(Jn.dec (s.log.take (left s keep))).2⟩
structure Ok (s:Sh):Prop where
 h:Sp.Ok s.h
 last:s.h.last<=s.log.length
 sure:s.sure<=s.log.length
 few:s.log.length<=100000
theorem Ok.new:Ok new:=⟨Sp.Ok.new,by simp[Sr.new,Sp.new],by simp[Sr.new],by simp[Sr.new]⟩
theorem Ok.FR {s:Sh}(h:Ok s):s.h.last<=100000:=by have:=h.last;have:=h.few;omega
theorem yG {s:Sh}(h:s.sure<=s.log.length)(a:Int):left s a<=s.log.length:=by unfold left stays;omega
theorem PU {s:Sp.St}(h:Sp.Ok s)(size:Int)(m:ay):Sp.Ok (made s size m).1:=h.create size m
theorem FU (s:Sp.St)(size:Int)(m:ay):(made s size m).1.last<=s.last+1:=Sp.CO s size m
theorem Q5 {s:Sp.St}(h:Sp.Ok s)(e:Jn.E):Sp.Ok (iT s e).1:=by
 unfold iT;split
 . exact PU h _ _
 . split
   . exact h.append ..
   . split
     . exact h.declare ..
     . split
       . exact h.drop ..
       . split
         . exact h.begins ..
         . exact h.ends ..
theorem JL (s:Sp.St)(e:Jn.E):(iT s e).1.last<=s.last+1:=by
 unfold iT;split
 . exact FU s _ _
 . split
   . rw[Sp.Az];omega
   . split
     . rw[Sp.yF];omega
     . split
       . rw[Sp.FP];omega
       . split
         . rw[Sp.AA];omega
         . rw[Sp.FQ];omega
theorem yH (s:Sp.St)(l:List Jn.E)(e:Jn.E):jw s (l++[e])=(iT (jw s l) e).1:=by simp[jw]
theorem Hy (s:Sp.St)(l:List Jn.E)(k:Nat)(h:k<l.length):jw s (l.take (k+1))=(iT (jw s (l.take k)) l[k]).1:=by
 rw[bM h,yH]
theorem xP:∀(l:List Jn.E) {s:Sp.St},Sp.Ok s->Sp.Ok (jw s l)
 | [],_,h=>h
 | e::t,_,h=>xP t (Q5 h e)
theorem tL:∀(l:List Jn.E) (s:Sp.St),(jw s l).last<=s.last+l.length
 | [],s=>by simp[jw]
 | e :: t, s => by
   have a:=tL t (iT s e).1;have b:=JL s e;show(jw (iT s e).1 t).last<=_;simp only[aW];omega
theorem mY {s:Sh}{r:Sp.St×Nat}{e:Jn.E}(h:r.2≠0):write s r e=(s,r.2):=by unfold write;rw[if_pos h]
theorem oq {s:Sh}{r:Sp.St×Nat}{e:Jn.E}(h:r.2=0)(a:Jn.fits e=F):write s r e=(s,1):=by unfold write;rw[if_neg (by simpa using h),if_pos a]
theorem mZ {s:Sh}{r:Sp.St×Nat}{e:Jn.E}(h:r.2=0)(a:Jn.fits e=true)(b:100000<s.log.length+(Jn.enc e).length):write s r e=(s,16):=by grind [Jn.fits,Jn.enc,write]
theorem ou {s:Sh}{r:Sp.St×Nat}{e:Jn.E}(h:r.2=0)(a:Jn.fits e=true)(b:¬100000<s.log.length+(Jn.enc e).length):write s r e=(⟨r.1,s.log++Jn.enc e,s.sure⟩,0):=by grind [Jn.fits,Jn.enc,write]
theorem Ok.write {s:Sh}(h:Ok s){r:Sp.St×Nat}(a:Sp.Ok r.1)(b:r.1.last<=s.h.last+1)(e:Jn.E):Ok (write s r e).1:=by
 unfold Sr.write;split
 . exact h
 . split
   . exact h
   . split
     . exact h
     . rename_i c;have d:=h.last;have f:=h.sure
       have g:=Jn.PN e;refine⟨a,?_,?_,?_⟩
       . simp only[aV];omega
       . simp only[aV];omega
       . simp only[aV];omega
theorem Ok.create {s:Sh}(h:Ok s)(size:Int)(m:ay):Ok (create s size m).1:=h.write (PU h.h _ _) (FU _ _ _) _
theorem Ok.append {s:Sh}(h:Ok s)(c a:Int)(b:av):Ok (append s c a b).1:=h.write (h.h.append ..) (by rw[Sp.Az];omega) _
theorem Ok.declare {s:Sh}(h:Ok s)(a size:Int):Ok (declare s a size).1:=h.write (h.h.declare ..) (by rw[Sp.yF];omega) _
theorem Ok.drop {s:Sh}(h:Ok s)(a:Int):Ok (drop s a).1:=h.write (h.h.drop ..) (by rw[Sp.FP];omega) _
theorem Ok.begins {s:Sh}(h:Ok s)(a:Int):Ok (begins s a).1:=h.write (h.h.begins ..) (by rw[Sp.AA];omega) _
theorem Ok.ends {s:Sh}(h:Ok s)(a:Int):Ok (ends s a).1:=h.write (h.h.ends ..) (by rw[Sp.FQ];omega) _
theorem Ok.sync {s:Sh}(h:Ok s):Ok (sync s):=⟨h.h,h.last,aM _,h.few⟩
theorem U8 (s:Sh)(a:Int):(Jn.dec (s.log.take (left s a))).2<=s.log.length∧(Jn.dec (s.log.take (left s a))).2<=left s a∧(Jn.dec (s.log.take (left s a))).1.length<=(Jn.dec (s.log.take (left s a))).2:=by
 obtain⟨_,b,_,c⟩:=Jn.CR _ (s.log.take (left s a)) (aM _);rw[bW] at b;omega
theorem Ok.crash {s:Sh}(h:Ok s)(a:Int):Ok (crash s a):=by
 obtain⟨b,_,c⟩:=U8 s a;have d:=tL (Jn.dec (s.log.take (left s a))).1 Sp.new;have e:=h.few;have f:Sp.new.last=0:=rfl;refine⟨xP _ Sp.Ok.new,?_,?_,?_⟩
 . show(jw Sp.new _).last<=_;simp only[Sr.crash,bW];omega
 . simp only[Sr.crash,bW];omega
 . simp only[Sr.crash,bW];omega
abbrev aan:=Stp
def Q6 (s:Sp.St)(x:aan):Sp.St×Nat:=if x.op=0 then made s x.n x.text else if x.op=1 then Sp.append s x.id x.n x.text.data.toList else if x.op=2 then Sp.declare s x.id x.n else if x.op=3 then Sp.drop s x.id else if x.op=4 then Sp.begins s x.id else Sp.ends s x.id
def entry (s:Sp.St)(x:aan):Jn.E:=if x.op=0 then ⟨1,s.last+1,x.n,x.text.data.toList⟩ else if x.op=1 then ⟨2,x.id,0,x.text.data.toList⟩ else if x.op=2 then ⟨3,x.id,x.n,[]⟩ else if x.op=3 then ⟨4,x.id,0,[]⟩ else if x.op=4 then ⟨5,x.id,0,[]⟩ else ⟨6,x.id,0,[]⟩
def step (s:Sh)(x:aan):Sh×Nat:=if x.op=0 then create s x.n x.text else if x.op=1 then append s x.id x.n x.text.data.toList else if x.op=2 then declare s x.id x.n else if x.op=3 then drop s x.id else if x.op=4 then begins s x.id else if x.op=5 then ends s x.id else if x.op=6 then (sync s,0) else if x.op=7 then (crash s x.n,0) else (s,0)
end Go.Proofs.YthhklgjjnaeaoaaGreatDoor.Sr
namespace Go.Proofs.YthhklgjjnaeaoaaGreatDoor.Tu
def rU:ay:=⟨#[47,102,105,108,101,115]⟩
def kU:ay:=⟨#[47,102,105,108,101,115,47]⟩
def abd:ay:=⟨#[79,80,84,73,79,78,83]⟩
def AL:ay:=⟨#[80,79,83,84]⟩
def JU:ay:=⟨#[72,69,65,68]⟩
def Ve:ay:=⟨#[68,69,76,69,84,69]⟩
def Vf:ay:=⟨#[80,65,84,67,72]⟩
def YM:ay:=⟨#[116,117,115,45,114,101,115,117,109,97,98,108,101]⟩
def CV:ay:=⟨#[117,112,108,111,97,100,45,108,101,110,103,116,104]⟩
def Vg:ay:=⟨#[117,112,108,111,97,100,45,100,101,102,101,114,45,108,101,110,103,116,104]⟩
def nUM:ay:=⟨#[117,112,108,111,97,100,45,109,101,116,97,100,97,116,97]⟩
def Mx:ay:=⟨#[99,111,110,116,101,110,116,45,116,121,112,101]⟩
def nUO:ay:=⟨#[117,112,108,111,97,100,45,111,102,102,115,101,116]⟩
def AO:ay:=⟨#[84,117,115,45,82,101,115,117,109,97,98,108,101]⟩
def jG:ay:=⟨#[49,46,48,46,48]⟩
def xB:ay:=⟨#[84,117,115,45,86,101,114,115,105,111,110]⟩
def Vh:ay:=⟨#[84,117,115,45,77,97,120,45,83,105,122,101]⟩
def vg:ay:=⟨#[50,48,48,48]⟩
def Yn:ay:=⟨#[84,117,115,45,69,120,116,101,110,115,105,111,110]⟩
def Yo:ay:=⟨#[99,114,101,97,116,105,111,110,44,99,114,101,97,116,105,111,110,45,100,101,102,101,114,45,108,101,110,103,116,104,44,116,101,114,109,105,110,97,116,105,111,110]⟩
def fLo:ay:=⟨#[76,111,99,97,116,105,111,110]⟩
def uJ:ay:=⟨#[85,112,108,111,97,100,45,79,102,102,115,101,116]⟩
def ET:ay:=⟨#[85,112,108,111,97,100,45,76,101,110,103,116,104]⟩
def EU:ay:=⟨#[85,112,108,111,97,100,45,68,101,102,101,114,45,76,101,110,103,116,104]⟩
def yK:ay:=⟨#[49]⟩
def MO:ay:=⟨#[67,97,99,104,101,45,67,111,110,116,114,111,108]⟩
def MP:ay:=⟨#[110,111,45,115,116,111,114,101]⟩
def FX:ay:=⟨#[85,112,108,111,97,100,45,77,101,116,97,100,97,116,97]⟩
def afX:ay:=⟨#[97,112,112,108,105,99,97,116,105,111,110,47,111,102,102,115,101,116,43,111,99,116,101,116,45,115,116,114,101,97,109]⟩
def one (vs:List ay):av×Nat :=
 match vs with
 | []=>([],10)
 | [v]=>(v.data.toList,0)
 | _=>([],9)
def vals (name:ay)(l:au):List ay:=(l.filter fun p=>decide (Ch.lower p.1.data.toList=Ch.lower name.data.toList)).map (·.2)
def jk (r:av×Nat):Int×Bool:=if r.2=10 then (-1,true) else ((Ch.number 10 9 r.1).1,(Ch.number 10 9 r.1).2&&decide (r.2=0))
abbrev yA:=Nat×au
def said (st:Nat)(l:au):yA:=(st,(AO,jG)::l)
def status (c:Nat):Nat:=if c=10 then 404 else if c=17∨c=19 then 409 else if c=4 then 413 else if c=8∨c=16 then 507 else 400
def dec (n:Nat):ay:=⟨(Ch.iV 8 n).toArray⟩
def Vi (t:ay):Option Int :=
 if 7<t.size∧t.data.toList.take 7=kU.data.toList∧(Ch.number 10 9 (t.data.toList.drop 7)).2=true∧Ch.iV 8 (Ch.number 10 9 (t.data.toList.drop 7)).1.toNat=t.data.toList.drop 7 then some (Ch.number 10 9 (t.data.toList.drop 7)).1 else none
def zV (s:Sp.St)(t:ay):Option Sp.Up:=match Vi t with
 | none=>none
 | some n => match Sp.place s.l n with
   | none=>none
   | some i=>s.l[i]?
def post (s:Sr.Sh)(m:ay)(l:au):Sr.Sh×yA :=
 if m≠AL then (s,said 405 [])
 else if (jk (one (vals CV l))).2=F then (s,said 400 [])
 else if (one (vals Vg l)).2=9∨((one (vals Vg l)).2=0∧(one (vals Vg l)).1≠yK.data.toList)∨(0<=(jk (one (vals CV l))).1<->(one (vals Vg l)).2=0) then (s,said 400 [])
 else if (one (vals nUM l)).2=9 then (s,said 400 [])
 else if (Sr.create s (jk (one (vals CV l))).1 (Sr.ES (one (vals nUM l)).1)).2≠0 then (s,said (status (Sr.create s (jk (one (vals CV l))).1 (Sr.ES (one (vals nUM l)).1)).2) [])
 else (Sr.sync (Sr.create s (jk (one (vals CV l))).1 (Sr.ES (one (vals nUM l)).1)).1,said 201 [(fLo,kU++dec (s.h.last+1).toNat)])
def head (u:Sp.Up):yA:=said 200 ((uJ,dec u.bytes.length)::(if u.size<0 then (EU,yK) else (ET,dec u.size.toNat))::(MO,MP)::(if u.note.size=0 then [] else [(FX,u.note)]))
def CW (v:av):Bool:=match Pm.jL v with
 | .inl _=>F
 | .inr x=>decide (x.1=afX.data.toList)
def tell (u:Sp.Up)(l:au):Prop:=0<=(jk (one (vals CV l))).1∧u.size<0
instance (u:Sp.Up) (l:au):Decidable (tell u l):=by unfold tell;exact inferInstance
def patch (s:Sr.Sh)(u:Sp.Up)(l:au)(body:av):Sr.Sh×yA :=
 if (one (vals Mx l)).2=9 then (s,said 400 [])
 else if CW (one (vals Mx l)).1=F then (s,said 415 [])
 else if (jk (one (vals nUO l))).2=F∨(jk (one (vals nUO l))).1<0 then (s,said 400 [])
 else if (jk (one (vals nUO l))).1≠u.bytes.length then (s,said 409 [])
 else if (jk (one (vals CV l))).2=F∨(0<=(jk (one (vals CV l))).1∧0<=u.size∧(jk (one (vals CV l))).1≠u.size) then (s,said 400 [])
 else if tell u l∧(2000<(jk (one (vals CV l))).1∨(jk (one (vals CV l))).1<u.bytes.length+body.length) then (s,said 413 [])
 else if 100000<s.log.length+(body.length+60) then (s,said 507 [])
 else if (Sr.append s u.id u.bytes.length body).2≠0 then (s,said (status (Sr.append s u.id u.bytes.length body).2) [])
 else (Sr.sync (if tell u l then (Sr.declare (Sr.append s u.id u.bytes.length body).1 u.id (jk (one (vals CV l))).1).1 else (Sr.append s u.id u.bytes.length body).1),said 204 [(uJ,dec (u.bytes.length+body.length))])
/-! ### what holds of it -/
theorem lN {s:Sr.Sh}{r:Sp.St×Nat}{e:Jn.E}(h:(Sr.write s r e).2≠0):(Sr.write s r e).1=s:=by grind [Sr.write]
theorem CX {s:Sp.St}{t:ay}{u:Sp.Up}(h:zV s t=some u):u∈s.l∧∃n i,Vi t=some n∧Sp.place s.l n=some i∧s.l[i]? = some u∧u.id=n:=by grind [zV,Vi,Sp.place,Sp.yE]
theorem YN {s:Sr.Sh}(h:Sr.Ok s)(m:ay)(l:au):Sr.Ok (post s m l).1:=by
 unfold post;repeat' split
 all_goals first
  | exact h
  | exact(h.create _ _).sync
theorem Vj {s:Sr.Sh}(h:Sr.Ok s)(u:Sp.Up)(l:au)(body:av):Sr.Ok (patch s u l body).1:=by
 unfold patch;repeat' split
 all_goals first
  | exact h
  | exact((h.append _ _ _).declare _ _).sync
  | exact(h.append _ _ _).sync
end Go.Proofs.YthhklgjjnaeaoaaGreatDoor.Tu
namespace Go.Proofs.YthhklgjjnaeaoaaGreatDoor.Tu
open Sr
def M8 (s:Sh)(u:Sp.Up)(m:ay)(l:au)(body:av):Sh×yA :=
 if m=JU then (s,head u)
 else if m=Ve then (Sr.sync (Sr.drop s u.id).1,said 204 [])
 else if m=Vf then patch s u l body else (s,said 405 [])
def iQ (s:Sh)(m t:ay)(l:au)(body:av):Sh×yA :=
 if t=rU∧m=abd then (s,said 204 [(xB,jG),(Vh,vg),(Yn,Yo)])
 else if (one (vals YM l)).2=9 then (s,said 400 [])
 else if (one (vals YM l)).1≠jG.data.toList then (s,said 412 [(xB,jG)])
 else if t=rU then post s m l
 else match zV s.h t with
  | none=>(s,said 404 [])
  | some u=>M8 s u m l body
theorem Y4 {s:Sh}(h:Sr.Ok s)(u:Sp.Up)(m:ay)(l:au)(body:av):Sr.Ok (M8 s u m l body).1:=by
 unfold M8;repeat' split
 all_goals first
  | exact h
  | exact(h.drop _).sync
  | exact Vj h u l body
theorem Ii {s:Sh}(h:Sr.Ok s)(m t:ay)(l:au)(body:av):Sr.Ok (iQ s m t l body).1:=by grind [iQ,YN,Y4]
end Go.Proofs.YthhklgjjnaeaoaaGreatDoor.Tu
namespace Go.Proofs.YthhklgjjnaeaoaaGreatDoor.Sr
theorem Nc {s:Sp.St}{c a:Int}{b:av}(h:(Sp.append s c a b).2=0):a=lenOf s c:=by
 cases d:Sp.place s.l c with
 | none=>rw[Sp.CP,Sp.oh d] at h;simp at h
 | some i =>
   rw[Sp.CP,Sp.om d] at h;rw[CS d];unfold Sp.xO at h;split at h
   . simp at h
   . split at h
     . simp at h
     . rename_i e;simpa using e
theorem Ij {s:Sp.St}{x:aan}(h:(Q6 s x).2=0):iT s (entry s x)=Q6 s x:=by
 by_cases a:x.op=0
 . simp only[Q6,entry,if_pos a,iT,if_true];rw[U6]
 by_cases b:x.op=1
 . simp only[Q6,if_neg a,if_pos b] at h;have:=Nc h;simp only[Q6,entry,if_neg a,if_pos b,iT];rw[if_neg (by decide),if_pos trivial,<-this]
 by_cases c:x.op=2
 . simp only[Q6,entry,if_neg a,if_neg b,if_pos c,iT];rw[if_neg (by decide),if_neg (by decide),if_pos trivial]
 by_cases d:x.op=3
 . simp only[Q6,entry,if_neg a,if_neg b,if_neg c,if_pos d,iT];rw[if_neg (by decide),if_neg (by decide),if_neg (by decide),if_pos trivial]
 by_cases e:x.op=4
 . simp only[Q6,entry,if_neg a,if_neg b,if_neg c,if_neg d,if_pos e,iT];rw[if_neg (by decide),if_neg (by decide),if_neg (by decide),if_neg (by decide),if_pos trivial]
 . simp only[Q6,entry,if_neg a,if_neg b,if_neg c,if_neg d,if_neg e,iT];rw[if_neg (by decide),if_neg (by decide),if_neg (by decide),if_neg (by decide),if_neg (by decide)]
def Was (h:Sp.St)(e:Jn.E):Prop:=∃x:aan,0<=x.op∧x.op<=5∧e=entry h x∧(Q6 h x).2=0∧Jn.fits e=true
def Runs (es:List Jn.E):Prop:=∀i (hi:i<es.length),Was (jw Sp.new (es.take i)) es[i]
theorem Runs.nil:Runs []:=fun i a=>by simp at a
theorem Runs.snoc {es:List Jn.E}{e:Jn.E}(h:Runs es)(b:Was (jw Sp.new es) e):Runs (es++[e]):=by
 intro i c;by_cases a:i<es.length
 . rw[List.take_append_of_le_length (by omega),List.getElem_append_left a];exact h i a
 . have:i=es.length:=by simp at c;omega
   subst this;simp only[List.take_left',List.getElem_append_right (aM _),Nat.sub_self,List.getElem_cons_zero];exact b
theorem Runs.take {es:List Jn.E}(h:Runs es)(k:Nat):Runs (es.take k):=by
 intro i a;rw[bW] at a;rw[List.take_take,dP (by omega),List.getElem_take];exact h i (by omega)
theorem Runs.fits {es:List Jn.E}(h:Runs es):∀e∈es,Jn.fits e=true:=fun e a=>by
 obtain⟨i,b,rfl⟩:=List.getElem_of_mem a;obtain⟨x,_,_,_,_,c⟩:=h i b;exact c
structure mM (s:Sh)(es:List Jn.E)(m:Nat):Prop where
 log:s.log=Jn.all es
 runs:Runs es
 now:s.h=jw Sp.new es
 le:m<=es.length
 sure:s.sure=(Jn.all (es.take m)).length
theorem mM.new:mM new [] 0:=⟨rfl,Runs.nil,rfl,aM _,rfl⟩
theorem VT (es:List Jn.E)(j:Nat):(Jn.all es).take (Jn.all (es.take j)).length=Jn.all (es.take j):=by
 conv=>lhs;rw[<-bV j es,Jn.all_append]
 rw[bV,List.take_left'];rfl
theorem Ko {es:List Jn.E}{m k:Nat}(a:m<=es.length)(h:(Jn.all (es.take m)).length<=k):m<=Jn.whole es k:=by
 cases m with
 | zero=>exact aA _
 | succ m=>exact(Jn.AJ es k m (by omega)).1 h
theorem mM.crash {s:Sh}{es:List Jn.E}{m:Nat}(h:mM s es m)(a:Int):mM (crash s a) (es.take (Jn.whole es (left s a))) (Jn.whole es (left s a))∧m<=Jn.whole es (left s a)∧Jn.whole es (left s a)<=es.length:=by
 have b:=Jn.Hw es (left s a) h.runs.fits;have c:=Jn.JJ es (left s a);refine⟨⟨?_,h.runs.take _,?_,?_,?_⟩,?_,c⟩
 . simp only[Sr.crash];rw[h.log,b];exact VT es _
 . simp only[Sr.crash];rw[h.log,b]
 . rw[bW];omega
 . simp only[Sr.crash];rw[h.log,b,List.take_take,Nat.min_self]
 . refine Ko h.le ?_;unfold left;rw[h.sure];omega
theorem mM.sync {s:Sh}{es:List Jn.E}{m:Nat}(h:mM s es m):mM (sync s) es es.length:=⟨h.log,h.runs,h.now,aM _,by simp only[Sr.sync];rw[bN,h.log]⟩
theorem VU {s:Sh}{x:aan}(g:0<=x.op)(i:x.op<=5):step s x=write s (Q6 s.h x) (entry s.h x):=by
 unfold step Q6 entry;by_cases a:x.op=0
 . simp only[if_pos a];rfl
 by_cases b:x.op=1
 . simp only[if_neg a,if_pos b];rfl
 by_cases c:x.op=2
 . simp only[if_neg a,if_neg b,if_pos c];rfl
 by_cases d:x.op=3
 . simp only[if_neg a,if_neg b,if_neg c,if_pos d];rfl
 by_cases e:x.op=4
 . simp only[if_neg a,if_neg b,if_neg c,if_neg d,if_pos e];rfl
 . have f:x.op=5:=by omega
   simp only[if_neg a,if_neg b,if_neg c,if_neg d,if_neg e,if_pos f];rfl
theorem mM.six {s:Sh}{es:List Jn.E}{m:Nat}(h:mM s es m){x:aan}(c:0<=x.op)(d:x.op<=5):((step s x).1=s)∨∃e,mM (step s x).1 (es++[e]) m:=by
 rw[VU c d];by_cases a:(Q6 s.h x).2=0
 . cases b:Jn.fits (entry s.h x) with
   | false=>rw[oq a b];exact Or.inl rfl
   | true =>
     by_cases f:100000<s.log.length+(Jn.enc (entry s.h x)).length
     . rw[mZ a b f];exact Or.inl rfl
     . rw[ou a b f];refine Or.inr ⟨entry s.h x,⟨?_,?_,?_,?_,?_⟩⟩
       . simp only;rw[h.log,Jn.all_append];simp[Jn.all]
       . refine h.runs.snoc ⟨x,c,d,by rw[<-h.now],by rw[<-h.now];exact a,b⟩
       . simp only;rw[yH,<-h.now,Ij a]
       . have:=h.le;simp;omega
       . simp only;rw[List.take_append_of_le_length h.le];exact h.sure
 . rw[mY a];exact Or.inl rfl
theorem mM.step {s:Sh}{es:List Jn.E}{m:Nat}(h:mM s es m)(x:aan):(x.op≠6∧x.op≠7∧((Sr.step s x).1=s∨∃e,mM (Sr.step s x).1 (es++[e]) m))∨((x.op=6∨x.op=7)∧∃b,mM (Sr.step s x).1 b b.length):=by
 by_cases g:0<=x.op∧x.op<=5
 . exact Or.inl ⟨by omega,by omega,h.six g.1 g.2⟩
 . have i:¬x.op=0:=by omega
   have j:¬x.op=1:=by omega
   have k:¬x.op=2:=by omega
   have l:¬x.op=3:=by omega
   have o:¬x.op=4:=by omega
   have p:¬x.op=5:=by omega
   unfold Sr.step;simp only[if_neg i,if_neg j,if_neg k,if_neg l,if_neg o,if_neg p];by_cases d:x.op=6
   . rw[if_pos d];exact Or.inr ⟨Or.inl d,es,h.sync⟩
   . by_cases f:x.op=7
     . rw[if_neg d,if_pos f];obtain⟨a,_,c⟩:=h.crash x.n;refine Or.inr ⟨Or.inr f,es.take (Jn.whole es (left s x.n)),?_⟩;have:(es.take (Jn.whole es (left s x.n))).length=Jn.whole es (left s x.n):=by rw[bW];omega
       rw[this];exact a
     . rw[if_neg d,if_neg f];exact Or.inl ⟨d,f,Or.inl rfl⟩
end Go.Proofs.YthhklgjjnaeaoaaGreatDoor.Sr
namespace Go.Proofs.YthhklgjjnaeaoaaGreatDoor.Tu
open Sr
/-! ### all that was done is made sure of -/
theorem wN {s:Sh}{es:List Jn.E}{m:Nat}(h:mM s es m){x:aan}(b:0<=x.op)(c:x.op<=5):∃a,mM (Sr.step s x).1 a m:=by
 rcases h.six b c with e | ⟨e,d⟩
 . rw[e];exact⟨es,h⟩
 . exact⟨_,d⟩
theorem Bb {s:Sh}{es:List Jn.E}{m:Nat}(h:mM s es m)(size:Int)(t:ay):∃a,mM (Sr.create s size t).1 a m:=by
 have:=wN h (x:=⟨0,0,size,t⟩) (by simp) (by simp);unfold Sr.step at this;rw[if_pos rfl] at this;exact this
theorem vH {s:Sh}{es:List Jn.E}{m:Nat}(h:mM s es m)(d a:Int)(b:av):∃c,mM (Sr.append s d a b).1 c m:=by
 have:=wN h (x:=⟨1,d,a,ES b⟩) (by simp) (by simp);unfold Sr.step at this;rw[if_neg (by simp),if_pos rfl,U7] at this;exact this
theorem Ik {s:Sh}{es:List Jn.E}{m:Nat}(h:mM s es m)(b c:Int):∃a,mM (Sr.declare s b c).1 a m:=by
 have:=wN h (x:=⟨2,b,c,⟨#[]⟩⟩) (by simp) (by simp);unfold Sr.step at this;rw[if_neg (by simp),if_neg (by simp),if_pos rfl] at this;exact this
theorem RA {s:Sh}{es:List Jn.E}{m:Nat}(h:mM s es m)(b:Int):∃a,mM (Sr.drop s b).1 a m:=by
 have:=wN h (x:=⟨3,b,0,⟨#[]⟩⟩) (by simp) (by simp);unfold Sr.step at this;rw[if_neg (by simp),if_neg (by simp),if_neg (by simp),if_pos rfl] at this;exact this
def qV (s:Sh):Prop:=∃es,mM s es es.length
theorem qV.new:qV Sr.new:=⟨[],mM.new⟩
theorem wO {s:Sh}{es:List Jn.E}{m:Nat}(h:mM s es m):qV (Sr.sync s):=⟨es,h.sync⟩
theorem RB {s:Sh}(h:qV s)(m:ay)(l:au):qV (post s m l).1:=by
 obtain⟨b,a⟩:=h;unfold post;repeat' split
 all_goals first
  | exact⟨b,a⟩
  | exact wO (Bb a _ _).choose_spec
theorem Nf {s:Sh}(h:qV s)(u:Sp.Up)(l:au)(body:av):qV (patch s u l body).1:=by
 obtain⟨b,a⟩:=h;unfold patch;repeat' split
 all_goals first
  | exact⟨b,a⟩
  | exact wO (Ik (vH a _ _ _).choose_spec _ _).choose_spec
  | exact wO (vH a _ _ _).choose_spec
/-! ### what is told -/
theorem Ng {s:Sh}{r:Sp.St×Nat}{e:Jn.E}(h:(Sr.write s r e).2=0):r.2=0∧(Sr.write s r e).1.h=r.1:=by
 unfold Sr.write at h ⊢;split
 . rename_i a;rw[if_pos a] at h;exact absurd h a
 . rename_i a;rw[if_neg a] at h;split
   . rename_i b;rw[if_pos b] at h;cases h
   . rename_i b;rw[if_neg b] at h;split
     . rename_i c;rw[if_pos c] at h;cases h
     . exact⟨by simpa using a,rfl⟩
end Go.Proofs.YthhklgjjnaeaoaaGreatDoor.Tu
namespace Go.Proofs.YthhklgjjnaeaoaaGreatDoor.Sr
theorem Kq {s:Sh}{es:List Jn.E}(h:mM s es es.length)(k:Int):Sr.crash s k=s:=by
 have f:s.sure=s.log.length:=by rw[h.sure,bN,h.log]
 have a:left s k=s.log.length:=by unfold left stays;omega
 have b:=Jn.Hw es (Jn.all es).length h.runs.fits;have g:Jn.whole es (Jn.all es).length=es.length:=by
  have l:=Jn.JJ es (Jn.all es).length;have n:=Ko (m:=es.length) (k:=(Jn.all es).length) (aM _) (by rw[bN];exact aM _);omega
 rw[g,bN,bN] at b;unfold Sr.crash;rw[a,bN,h.log,b];obtain⟨o,i,j⟩:=s;have c:=h.now;have d:=h.log;have e:=f
 simp only at c d e;subst d;subst e;rw[<-c];simp only[bN]
theorem mM.any {s:Sh}{es:List Jn.E}{m:Nat}(h:mM s es m)(x:aan):∃a c,mM (Sr.step s x).1 a c:=by
 rcases h.step x with ⟨_,_,b⟩ | ⟨_,a,d⟩
 . rcases b with b | ⟨e,f⟩
   . rw[b];exact⟨es,m,h⟩
   . exact⟨_,_,f⟩
 . exact⟨_,_,d⟩
end Go.Proofs.YthhklgjjnaeaoaaGreatDoor.Sr