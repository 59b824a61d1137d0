import Derived.Test.YtodmelffkfbalaaGreatDoorPk1
import Derived.Test.YtodmelffkfbalaaGreatDoorPk5
import Derived.Test.YtodmelffkfbalaaGreatDoorPk9
open Option renaming none->U,some->M
open Bool renaming false->F
namespace Go.Proofs.YtodmelffkfbalaaGreatDoor
def nO (c:UInt8):Bool:=c==47||c==92
def mT (l:ab):ab:=(l.reverse.takeWhile fun c=>!nO c).reverse
def mg (c:UInt8):Bool:=c==9||c==34||c==58||!ex c.toNat
def kG (c:UInt8):UInt8:=if mg c then 95 else c
def rP (l:ab):ab:=l.dropWhile (·==46)
def JE:ab:=[102,105,108,101]
def ud (l:ab):ab:=if l=[] then JE else l
def oM (l:ab):ab:=ud ((rP ((mT l).map kG)).take 40)
def iQ:ab->Option (ab)
 | []=>M []
 | c :: t => if c = 37 then (match t with
     | a::b::r=>if 0<=aF a.toNat∧0<=aF b.toNat then (iQ r).map ((16*aF a.toNat+aF b.toNat).toNat.toUInt8::·) else U
     | _=>U)
  else (iQ t).map (c::·)
def DU:ab:=[117,116,102,45,56,39,39]
def ka (l:ab):Option (ab):=if l.length<7∨aY (l.take 7)≠DU then U else iQ (l.drop 7)
def ig (n:ab)(ps:List cU):Option (ab):=(ps.find? fun p=>p.1==n).map (·.2)
def wI:ab:=[110,97,109,101]
def zz:ab:=[102,105,108,101,110,97,109,101]
def wH:ab:=[102,105,108,101,110,97,109,101,42]
def qu:ab:=[102,111,114,109,45,100,97,116,97]
def zA:ab:=[99,111,110,116,101,110,116,45,100,105,115,112,111,115,105,116,105,111,110]
def zE:ab:=[99,111,110,116,101,110,116,45,116,121,112,101]
def lu (ps:List cU):Option (ab) :=
 match ig wH ps with
 | some x=>(ka x).map oM
 | none => match ig zz ps with
   | some x=>M (oM x)
   | none=>M []
structure oL where
 b:ab
 a:ab
 c:ab
def qv:List (ab)->ab×Nat
 | []=>([],10)
 | [v]=>(v,0)
 | _=>([],9)
def mS (d t:ab×Nat):Nat ⊕ oL :=
 if d.2≠0 then .inl d.2
 else match ee d.1 with
  | .inl c=>.inl c
  | .inr x => if x.1 ≠ qu then .inl 11
    else match ig wI x.2 with
     | none=>.inl 6
     | some nm => match lu x.2 with
       | none=>.inl 5
       | some f=>if t.2=9 then .inl 9 else .inr ⟨nm,f,t.1⟩
def kF (fs:List gA):Nat ⊕ oL:=mS (qv (ef fs zA)) (qv (ef fs zE))
def wJ (p:oL):aA:=⟨5,⟨#[]⟩,⟨#[]⟩,0,[],0,[],⟨p.b.toArray⟩,⟨p.a.toArray⟩,⟨p.c.toArray⟩,[],0⟩
def ua:aA:=⟨6,⟨#[]⟩,⟨#[]⟩,0,[],0,[],⟨#[]⟩,⟨#[]⟩,⟨#[]⟩,[],0⟩
def DV:aA:=⟨3,⟨#[]⟩,⟨#[]⟩,0,[],0,[],⟨#[]⟩,⟨#[]⟩,⟨#[]⟩,[],0⟩
def zB (c:Nat):aA:=⟨4,⟨#[]⟩,⟨#[]⟩,0,[],0,[],⟨#[]⟩,⟨#[]⟩,⟨#[]⟩,[],(c:Int)⟩
def ih (l:ab):List aA:=if l=[] then [] else [dU l]
structure bi where
 b:Nat
 c:Nat
 d:Nat
 a:ct
 e:List gA
 f:Nat
 g:Nat
def D0:bi:=⟨0,0,0,dv,[],0,0⟩
def ii:bi:=⟨0,2,2,dv,[],0,0⟩
def zC (c:Nat):bi:={ D0 with g:=c }
def uc:bi:={ D0 with b:=6 }
def iJ (s:bi):Prop:=s.g=0∧s.b≠6
instance (s:bi):Decidable (iJ s):=by unfold iJ;infer_instance
def ij (p:Nat)(c:UInt8):Nat×Nat :=
 if p=4 then (if c=10 then (5,0) else (0,2))
 else if p=2 then (if c=45 then (6,0) else (0,5))
 else if p=1∧c=45 then (2,0)
 else if c=32∨c=9 then (3,0)
 else if c=13 then (4,0)
 else (0,5)
def iR (c:Nat):bi×List aA:=(zC c,[zB c])
def dZ (s:bi)(t:ab):bi×List aA :=
 if t≠[] then
  if s.e.length=16 then iR 8
  else if (aZ t).a≠0 then iR (aZ t).a
  else ({ s with e:=s.e++[((aZ t).b,(aZ t).c)] },[])
 else match kF s.e with
  | .inl c=>iR c
  | .inr p=>if s.f=12 then iR 8 else ({ s with e:=[],f:=s.f+1,b:=0,c:=2,d:=2 },[wJ p])
def cB (m:ab)(s:bi)(c:UInt8):bi×List aA :=
 if ¬iJ s then (s,[])
 else if s.b=0 then
  ({ s with c := fK m s.c c, d := s.d-(dD m s.c c).length, b := if eU m s.c c then 1 else 0 },
   if 0<s.f then ih ((dD m s.c c).drop s.d)++(if eU m s.c c then [ua] else []) else [])
 else if s.b=5 then
  if (bj s.a c).a≠0 then iR (bj s.a c).a
  else if fI s.a c then dZ { s with a:=bj s.a c } (cT s.a c)
  else ({ s with a:=bj s.a c },[])
 else if (ij s.b c).2≠0 then iR (ij s.b c).2
 else if (ij s.b c).1=6 then (uc,[DV])
 else ({ s with b:=(ij s.b c).1 },[])
def cX (m:ab):bi->ab->bi
 | s,[]=>s
 | s,c::t=>cX m (cB m s c).1 t
def cn (m:ab):bi->ab->List aA
 | _,[]=>[]
 | s,c::t=>(cB m s c).2++cn m (cB m s c).1 t
def mR (s:bi):Nat:=if s.g=0∧s.b≠6 then 14 else s.g
def fm (b:ab):ab:=13::10::45::45::b
def iK (b:ab):Bool:=!b.isEmpty&&decide (b.length<=70)&&dP b&&decide (Lib.trimS b bX=b)
theorem zD (m:ab):∀(a b:ab) (s:bi),cX m s (a++b)=cX m (cX m s a) b
 | [],_,_=>rfl
 | _::t,b,_=>zD m t b _
theorem DW (m:ab):∀(a b:ab) (s:bi),cn m s (a++b)=cn m s a++cn m (cX m s a) b:=by intro l;induction l <;> grind [cn,cX]
theorem JC (m:ab)(s:bi)(l:ab)(c:UInt8):cX m s (l++[c])=(cB m (cX m s l) c).1:=by rw[zD];rfl
theorem JD (m:ab)(s:bi)(l:ab)(c:UInt8):cn m s (l++[c])=cn m s l++(cB m (cX m s l) c).2:=by grind [cn,cB,cX,DW]
theorem J2 {m:ab}{s:bi}(h:¬iJ s)(c:UInt8):cB m s c=(s,[]):=by unfold cB;rw[if_pos h]
theorem DY {m:ab}:∀(l:ab) {s:bi},¬iJ s->cn m s l=[]∧cX m s l=s
 | [],_,_=>⟨rfl,rfl⟩
 | c :: t, s, h => by
   have a:=DY (m:=m) t h;show(cB m s c).2++cn m (cB m s c).1 t=[]∧cX m (cB m s c).1 t=s;rw[J2 h];exact a
structure dI where
 b:List aA
 a:ab
def fF (t:dI):List aA:=t.b++ih t.a
def nP (t:dI)(e:aA):dI:=if e.b=2 then ⟨t.b,t.a++e.a⟩ else ⟨fF t++[e],[]⟩
def dz (t:dI)(l:List aA):dI:=l.foldl nP t
def gN:dI:=⟨[],[]⟩
def kD (l:List aA):Prop:=∀e∈l,e.b=2->e=dU e.a∧e.a≠[]
theorem kD.a {a b:List aA}(h:kD a)(k:kD b):kD (a++b):=by grind [kD]
theorem pq:kD []:=fun e a=>by cases a
theorem JH (l:ab):kD (ih l):=by
 unfold ih;split
 . exact pq
 . rename_i h;intro e a _;rw[cW.1 a];exact⟨rfl,h⟩
theorem wM {e:aA}(h:e.b≠2):kD [e]:=fun x a k=>by rw[cW.1 a] at k;exact absurd k h
theorem rQ (c:Nat):kD (iR c).2:=wM (by show(4:Int)≠2;decide)
theorem JM (s:bi)(t:ab):kD (dZ s t).2:=by
 unfold dZ;split
 . split
   . exact rQ _
   . split
     . exact rQ _
     . exact pq
 . split
   . exact rQ _
   . split
     . exact rQ _
     . exact wM (by show(5:Int)≠2;decide)
theorem JN (m:ab)(s:bi)(c:UInt8):kD (cB m s c).2:=by
 unfold cB;split
 . exact pq
 . split
   . show kD (if 0<s.f then _ else _);split
     . refine kD.a (JH _) ?_;split
       . exact wM (by decide)
       . exact pq
     . exact pq
   . split
     . split
       . exact rQ _
       . split
         . exact JM _ _
         . exact pq
     . split
       . exact rQ _
       . split
         . exact wM (by decide)
         . exact pq
theorem zG (m:ab):∀(l:ab) (s:bi),kD (cn m s l)
 | [],_=>pq
 | c::t,s=>(JN m s c).a (zG m t _)
theorem JO (t:dI)(l:List aA)(e:aA):dz t (l++[e])=nP (dz t l) e:=by unfold dz;rw[sL];rfl
theorem DZ (t:dI)(a b:List aA):dz t (a++b)=dz (dz t a) b:=by unfold dz;rw[sL]
theorem Dn (l:List aA)(h:kD l):fF (dz gN l)=gr l∧jx (dz gN l).b=F:=by
 have:∀n (l:List aA),l.length=n->kD l->fF (dz gN l)=gr l∧jx (dz gN l).b=F:=by
  intro n;induction n with
  | zero=>intro l b _;rw[iz b];exact⟨rfl,rfl⟩
  | succ n j =>
    intro l b d;rcases mz l with rfl | ⟨q,x,rfl⟩
    . simp at b
    . rw[lb] at b d ⊢;obtain⟨g,c⟩:=j q (by simpa using b) (fun e k=>d e (vm _ k));rw[JO,C3,<-g];generalize dz gN q=t at g c;obtain⟨es,bs⟩:=t;simp only at c;by_cases a:x.b=2
      . obtain⟨m,f⟩:=d x (by simp) a;unfold nP;rw[if_pos a];refine⟨?_,c⟩;unfold fF ih;simp only;rw[if_neg (by simp[f])];by_cases i:bs=[]
        . subst i;rw[if_pos rfl,fx,rk _ _ (fun _=>c),lc,<-m]
        . rw[if_neg i,te _ _ _ rfl a];rfl
      . unfold nP;rw[if_neg a];refine⟨?_,?_⟩
        . rw[rk _ _ (fun e=>absurd e a)];show(_++[x])++ih []=_;simp[ih]
        . show jx (_++[x])=F;rw[vL,aX a]
 exact this _ l rfl h
structure ie (m:ab)(s:bi):Prop where
 j:s.b<=6
 a:s.c<=m.length-1
 h:s.b≠0->s.c=0
 b:qx s.a
 i:s.a.a=0
 c:s.e.length<=16
 e:∀f∈s.e,f.1.length<=200∧f.2.length<=200
 k:s.b≠5->s.a=dv∧s.e=[]
 d:s.f<=12
 g:s.g<=20
theorem ie.E {m:ab}(b:3<=m.length):ie m ii:=⟨ax _,by show 2<=_;omega,fun h=>absurd rfl h,qx.a,rfl,ax _,(fun f a=>by cases a),fun _=>⟨rfl,rfl⟩,ax _,ax _⟩
theorem ie.f {m:ab}{c:Nat}(a:c<=20):ie m (zC c):=⟨ax _,ax _,fun _=>rfl,qx.a,rfl,ax _,(fun f b=>by cases b),fun _=>⟨rfl,rfl⟩,ax _,a⟩
theorem ie.y {m:ab}:ie m uc:=⟨am _,ax _,fun _=>rfl,qx.a,rfl,ax _,(fun f a=>by cases a),fun _=>⟨rfl,rfl⟩,ax _,ax _⟩
theorem Ko (m:ab)(h:Nat)(c:UInt8)(b:0<m.length):fK m h c<=m.length-1:=by
 unfold fK;split
 . exact ax _
 . rename_i a;have d:=A7 m h c;unfold eU at a;rw[bq b,Bool.true_and,bN] at a;omega
theorem Dv {s:ct}{c:UInt8}(h:fI s c=true):bj s c=dv:=by grind [fI,bj,dv]
theorem Kp (s:ct)(c:UInt8):fq s c<=4:=by grind [fq]
theorem J3 {s:ct}(c:UInt8)(h:s.a=0):(bj s c).a<=4:=by grind [bj,Kp]
theorem KF (t:ab):(aZ t).a<=20:=by
 unfold aZ jg;repeat' split
 all_goals (first | exact ax _ | (simp only;omega) | decide)
theorem DQ (p:Nat)(c:UInt8):(ij p c).1<=6∧(ij p c).2<=20:=by
 unfold ij;repeat' split
 all_goals decide
theorem KI {r:ab}{c:Nat}(h:kJ r=.inl c):c<=20:=by grind [kJ]
theorem KJ {r:ab}{c:Nat}(h:kf r=.inl c):c<=20:=by
 unfold kf at h;split at h
 . simp only[] at h;split at h
   . injection h with h;omega
   . split at h
     . split at h
       . rename_i a;injection h with h;subst h;exact KI a
       . cases h
     . injection h with h;omega
 . injection h with h;omega
theorem DS:∀(n:Nat) (r:ab) (a:List cU) (c:Nat),jl n r a=.inl c->c<=20
 | 0,r,a,c,h=>by rw[jl] at h;cases h
 | n + 1, r, a, c, h => by
   rw[jl] at h;split at h
   . cases h
   . split at h
     . rename_i b;injection h with h;subst h;exact KJ b
     . split at h
       . injection h with h;omega
       . split at h
         . injection h with h;omega
         . exact DS n _ _ c h
theorem Kq {l:ab}{c:Nat}(h:ee l=.inl c):c<=20:=by
 unfold ee at h;split at h
 . injection h with h;omega
 . split at h
   . rename_i a;injection h with h;subst h;unfold qz at a;simp only[] at a;repeat' split at a
     all_goals (first | (injection a with a;omega) | (cases a;done))
   . unfold kI at h;split at h
     . rename_i b;injection h with h;subst h;exact DS _ _ _ _ b
     . cases h
theorem KG {a:List gA}{c:Nat}(h:kF a=.inl c):c<=20:=by
 unfold kF mS at h;split at h
 . injection h with h;subst h;unfold qv;split <;> (first | exact ax _ | decide)
 . split at h
   . rename_i b;injection h with h;subst h;exact Kq b
   . repeat' split at h
     all_goals (first | (injection h with h;omega) | (cases h;done))
theorem ie.B {m:ab}{s:bi}(h:ie m s)(i:3<=m.length)(c:s.b=5)(d:s.a=dv){t:ab}(j:t.length<=200):ie m (dZ s t).1:=by
 unfold dZ;split
 . split
   . exact ie.f (by omega)
   . split
     . exact ie.f (KF t)
     . rename_i g a;have:=Df t;refine⟨h.j,h.a,h.h,h.b,h.i,?_,fun f a=>?_,fun e=>absurd c e,h.d,h.g⟩
       . have:=h.c;show(s.e++[_]).length<=16;rw[aD];simp;omega
       . rcases eJ.1 a with a | a
         . exact h.e f a
         . rw[cW.1 a];exact⟨by show(aZ t).b.length<=_;omega,by show(aZ t).c.length<=_;omega⟩
 . split
   . rename_i b;exact ie.f (KG b)
   . split
     . exact ie.f (by omega)
     . rename_i b;have:=h.d;exact⟨ax _,by show 2<=_;omega,fun e=>absurd rfl e,h.b,h.i,ax _,(fun f a=>by cases a),fun _=>⟨d,rfl⟩,by show s.f+1<=12;omega,h.g⟩
theorem ie.q {m:ab}{s:bi}(h:ie m s)(f:3<=m.length)(c:UInt8):ie m (cB m s c).1:=by
 unfold cB;split
 . exact h
 . split
   . rename_i b;refine⟨?_,Ko m _ c (by omega),fun e=>?_,h.b,h.i,h.c,h.e,fun _=>h.k (by omega),h.d,h.g⟩
     . show(if _ then 1 else 0)<=6;split <;> omega
     . show fK m s.c c=0;unfold fK;cases g:eU m s.c c
       . exfalso;exact e (by show(if eU m s.c c then 1 else 0)=0;rw[g];rfl)
       . rfl
   . rename_i b;split
     . rename_i a;split
       . exact ie.f (by have:=J3 c h.i;omega)
       . rename_i j;have d:ie m { s with a:=bj s.a c }:=⟨h.j,h.a,h.h,xg h.b,by show(bj s.a c).a=0;omega,h.c,h.e,fun e=>absurd a e,h.d,h.g⟩;split
         . rename_i i;exact d.B f a (Dv i) (xw h.b).1
         . exact d
     . rename_i a;split
       . exact ie.f (DQ _ _).2
       . split
         . exact ie.y
         . rename_i k l;exact⟨(DQ _ _).1,h.a,fun _=>h.h b,h.b,h.i,h.c,h.e,fun _=>h.k a,h.d,h.g⟩
theorem ie.r {m:ab}(a:3<=m.length):∀(l:ab) {s:bi},ie m s->ie m (cX m s l)
 | [],_,h=>h
 | c::t,_,h=>ie.r a t (h.q a c)
theorem zH (m:ab)(h:Nat)(c:UInt8)(a:h<=m.length-1):(dD m h c).length+fK m h c<=h+1:=by grind [dD,fK,xB,Gv]
theorem Dz (l:ab):dw (ih l)=l.length:=by
 unfold ih;split
 . rename_i h;subst h;rfl
 . simp[dw,dU]
theorem Kr (s:bi)(t:ab):dw (dZ s t).2=0∧(dZ s t).2.length<=1:=by
 unfold dZ;split
 . split
   . exact⟨rfl,am _⟩
   . split
     . exact⟨rfl,am _⟩
     . exact⟨rfl,ax _⟩
 . split
   . exact⟨rfl,am _⟩
   . split
     . exact⟨rfl,am _⟩
     . exact⟨rfl,am _⟩
theorem J4 {s:bi}(t:ab)(a:s.c=0):(dZ s t).1.c<=2:=by
 unfold dZ;split
 . split
   . exact ax _
   . split
     . exact ax _
     . show s.c<=2;omega
 . split
   . exact ax _
   . split
     . exact ax _
     . exact am _
theorem Ks {m:ab}{s:bi}(h:ie m s)(c:UInt8):dw (cB m s c).2+(cB m s c).1.c<=s.c+2∧(cB m s c).2.length<=2:=by
 unfold cB;split
 . exact⟨by show 0+s.c<=_;omega,ax _⟩
 . split
   . have a:=zH m s.c c h.a;have b:dw (if eU m s.c c then [ua] else [])=0:=by split <;> rfl
     have f:(if eU m s.c c then [ua] else []).length<=1:=by split <;> simp
     have g:(ih ((dD m s.c c).drop s.d)).length<=1:=by unfold ih;split <;> simp
     have i:((dD m s.c c).drop s.d).length<=(dD m s.c c).length:=by rw[cQ];omega
     show dw (if 0<s.f then _ else _)+fK m s.c c<=_∧(if 0<s.f then _ else _:List aA).length<=2;split
     . rw[sX,b,Dz,aD];exact⟨by omega,by omega⟩
     . exact⟨by show 0+_<=_;omega,ax _⟩
   . split
     . rename_i d j;have e:=h.h d;split
       . exact⟨by show 0+0<=_;omega,by show 1<=2;omega⟩
       . split
         . have a:=Kr { s with a:=bj s.a c } (cT s.a c);have k:=J4 (s:={ s with a:=bj s.a c }) (cT s.a c) e;exact⟨by omega,by omega⟩
         . exact⟨by show 0+s.c<=_;omega,ax _⟩
     . split
       . exact⟨by show 0+0<=_;omega,by show 1<=2;omega⟩
       . split
         . exact⟨by show 0+0<=_;omega,by show 1<=2;omega⟩
         . exact⟨by show 0+s.c<=_;omega,ax _⟩
theorem wK {m:ab}(a:3<=m.length):∀(l:ab) {s:bi},ie m s->dw (cn m s l)+(cX m s l).c<=s.c+2*l.length∧(cn m s l).length<=2*l.length
 | [],_,_=>⟨by show 0+_<=_;simp[cX],ax _⟩
 | c :: t, s, h => by
   have b:=Ks h c;have d:=wK a t (h.q a c);show dw ((cB m s c).2++cn m (cB m s c).1 t)+(cX m (cB m s c).1 t).c<=_∧((cB m s c).2++cn m (cB m s c).1 t).length<=_;rw[sX,aD,bF];exact⟨by omega,by omega⟩
structure nQ (e:aA):Prop where
 f:e.i.size=0
 h:e.j.size=0
 c:e.d=[]
 a:e.c=[]
 d:e.g.size<=200
 b:e.f.size<=200
 g:e.h.size<=200
theorem DA (b:ab):nQ (dU b):=⟨rfl,rfl,rfl,rfl,ax _,ax _,ax _⟩
theorem rR (c:Nat):nQ (zB c):=⟨rfl,rfl,rfl,rfl,ax _,ax _,ax _⟩
theorem DG (l:ab):(oM l).length<=40:=by
 unfold oM ud;split
 . decide
 . rw[bV];omega
theorem KK {n:ab}{a:List cU}{v:ab}(h:ig n a=M v):∃p∈a,p.2=v:=by
 unfold ig at h;obtain⟨p,b,rfl⟩:=xT.1 h;exact⟨p,List.mem_of_find?_eq_some b,rfl⟩
theorem Kt {a:List cU}{f:ab}(h:lu a=M f):f.length<=40:=by
 unfold lu at h;split at h
 . obtain⟨x,_,rfl⟩:=xT.1 h;exact DG x
 . split at h
   . injection h with h;subst h;exact DG _
   . injection h with h;subst h;exact ax _
theorem DT {a:List (ab)}{N:Nat}(h:∀v∈a,v.length<=N):(qv a).1.length<=N:=by
 unfold qv;split
 . exact ax _
 . exact h _ (by simp)
 . exact ax _
theorem DH {a:List gA}{n:ab}{N:Nat}(h:∀f∈a,f.2.length<=N):∀v∈ef a n,v.length<=N:=fun v b=>by
 unfold ef at b;obtain⟨f,c,rfl⟩:=oh.1 b;exact h f (List.mem_filter.1 c).1
theorem Ku {b:List gA}{p:oL}{N:Nat}(h:kF b=.inr p)(c:∀f∈b,f.2.length<=N):p.b.length<=N∧p.a.length<=40∧p.c.length<=N:=by
 have l:=DT (DH (n:=zA) c);have d:=DT (DH (n:=zE) c);unfold kF mS at h;split at h
 . cases h
 . split at h
   . cases h
   . rename_i x g;split at h
     . cases h
     . split at h
       . cases h
       . rename_i i j;split at h
         . cases h
         . rename_i f a;split at h
           . cases h
           . injection h with h;subst h;obtain⟨q,k,e⟩:=KK j;have:=(AI g).2 q k;exact⟨by show i.length<=N;rw[<-e];omega,Kt a,d⟩
theorem J1 {m:ab}{s:bi}(h:ie m s)(t:ab):∀e∈(dZ s t).2,nQ e:=by
 unfold dZ;split
 . split
   . intro e a;rw[cW.1 a];exact rR 8
   . split
     . intro e a;rw[cW.1 a];exact rR _
     . intro e a;cases a
 . split
   . intro e a;rw[cW.1 a];exact rR _
   . split
     . intro e a;rw[cW.1 a];exact rR 8
     . rename_i p b _;have:=Ku b (fun f c=>(h.e f c).2);intro e a;rw[cW.1 a];refine⟨rfl,rfl,rfl,rfl,?_,?_,?_⟩
       . show p.b.toArray.size<=_;rw[cx];omega
       . show p.a.toArray.size<=_;rw[cx];omega
       . show p.c.toArray.size<=_;rw[cx];omega
theorem J5 {m:ab}{s:bi}(h:ie m s)(c:UInt8):∀e∈(cB m s c).2,nQ e:=by
 unfold cB;split
 . intro e a;cases a
 . split
   . show ∀e∈(if 0<s.f then _ else _),nQ e;split
     . intro e a;rcases eJ.1 a with a | a
       . unfold ih at a;split at a
         . cases a
         . rw[cW.1 a];exact DA _
       . split at a
         . rw[cW.1 a];exact⟨rfl,rfl,rfl,rfl,ax _,ax _,ax _⟩
         . cases a
     . intro e a;cases a
   . split
     . rename_i b;split
       . intro e a;rw[cW.1 a];exact rR _
       . rename_i d;split
         . exact J1 (m:=m) (s:={ s with a:=bj s.a c }) ⟨h.j,h.a,h.h,xg h.b,by show(bj s.a c).a=0;omega,h.c,h.e,fun e=>absurd b e,h.d,h.g⟩ _
         . intro e a;cases a
     . split
       . intro e a;rw[cW.1 a];exact rR _
       . split
         . intro e a;rw[cW.1 a];exact⟨rfl,rfl,rfl,rfl,ax _,ax _,ax _⟩
         . intro e a;cases a
theorem DX {m:ab}(b:3<=m.length):∀(l:ab) {s:bi},ie m s->∀e∈cn m s l,nQ e
 | [],_,_=>fun e a=>by cases a
 | c :: t, s, h => fun e a => by
   rcases eJ.1 a with a | a
   . exact J5 h c e a
   . exact DX b t (h.q b c) e a
theorem KL {l:List aA}(h:∀e∈l,nQ e):∀e∈gr l,nQ e:=O5 DA l h
theorem J6 (m:ab){s:bi}(a:s.b=5)(b:s.g=0)(c:UInt8):cB m s c=if (bj s.a c).a≠0 then iR (bj s.a c).a else if fI s.a c then dZ { s with a:=bj s.a c } (cT s.a c) else ({ s with a:=bj s.a c },[]):=by
 unfold cB;rw[if_neg (fun h=>h ⟨b,by omega⟩),if_neg (by omega),if_pos a]
theorem JF {c:Nat}(h:c≠0):¬iJ (zC c):=fun k=>h k.1
theorem J7:¬iJ uc:=fun k=>k.2 rfl
theorem Do (t:dI)(l:ab):dz t (ih l)=⟨t.b,t.a++l⟩:=by
 unfold ih;split
 . rename_i h;subst h;rw[fx];rfl
 . show nP t (dU l)=_;unfold nP;rw[if_pos (show(dU l).b=2 from rfl)];rfl
theorem J8 (m:ab){s:bi}(b:s.b=1∨s.b=2∨s.b=3∨s.b=4)(a:s.g=0)(c:UInt8):cB m s c=if (ij s.b c).2≠0 then iR (ij s.b c).2 else if (ij s.b c).1=6 then (uc,[DV]) else ({ s with b:=(ij s.b c).1 },[]):=by
 unfold cB;rw[if_neg (fun h=>h ⟨a,by omega⟩),if_neg (by omega),if_neg (by omega)]
theorem J9 (p:Nat)(c:UInt8):(ij p c).1=6->(ij p c).2=0:=by grind [ij]
theorem Ka {s:bi}{b:List gA}{p:oL}(c:kF b=.inr p)(a:s.f≠12):dZ { s with e:=b } []=({ s with e:=[],f:=s.f+1,b:=0,c:=2,d:=2 },[wJ p]):=by
 unfold dZ;rw[if_neg (fun h=>h rfl)];simp only[c];rw[if_neg a]
theorem Kv {r:ab}{c:Nat}(h:kJ r=.inl c):c≠0:=by grind [kJ]
theorem Kw {r:ab}{c:Nat}(h:kf r=.inl c):c≠0:=by grind [kf,Kv]
theorem DC:∀(n:Nat) (r:ab) (a:List cU) (c:Nat),jl n r a=.inl c->c≠0
 | 0,r,a,c,h=>by rw[jl] at h;cases h
 | n + 1, r, a, c, h => by
   rw[jl] at h;split at h
   . cases h
   . split at h
     . rename_i b;injection h with h;subst h;exact Kw b
     . split at h
       . injection h with h;omega
       . split at h
         . injection h with h;omega
         . exact DC n _ _ c h
theorem Dw {l:ab}{c:Nat}(h:ee l=.inl c):c≠0:=by
 unfold ee at h;split at h
 . injection h with h;omega
 . split at h
   . rename_i a;injection h with h;subst h;unfold qz at a;simp only[] at a;repeat' split at a
     all_goals (first | (injection a with a;omega) | (cases a;done))
   . unfold kI at h;split at h
     . rename_i b;injection h with h;subst h;exact DC _ _ _ _ b
     . cases h
theorem Kb {a:List gA}{c:Nat}(h:kF a=.inl c):c≠0:=by
 unfold kF mS at h;split at h
 . rename_i b;injection h with h;subst h;exact b
 . split at h
   . rename_i d;injection h with h;subst h;exact Dw d
   . repeat' split at h
     all_goals (first | (injection h with h;omega) | (cases h;done))
theorem JP (s:bi)(t:ab)(h:s.d<=2):(dZ s t).1.d<=2:=by
 unfold dZ;split
 . split
   . exact ax _
   . split
     . exact ax _
     . exact h
 . split
   . exact ax _
   . split
     . exact ax _
     . exact am _
theorem JQ (m:ab)(s:bi)(c:UInt8)(h:s.d<=2):(cB m s c).1.d<=2:=by
 unfold cB;split
 . exact h
 . split
   . show s.d-_<=2;omega
   . split
     . split
       . exact ax _
       . split
         . exact JP _ _ h
         . exact h
     . split
       . exact ax _
       . split
         . exact ax _
         . exact h
theorem Dx (m:ab):∀(l:ab) (s:bi),s.d<=2->(cX m s l).d<=2
 | [],_,h=>h
 | c::t,s,h=>Dx m t _ (JQ m s c h)
theorem Kc {m:ab}(c:3<=m.length){s:bi}(h:ie m s)(l:ab):(dz gN (cn m s l)).b.length<=2*l.length∧(dz gN (cn m s l)).a.length<=s.c+2*l.length:=by
 have e:=wK c l h;have d:=(Dn _ (zG m l s)).1;have a:=BE (cn m s l);have b:=Eh (cn m s l);rw[<-d] at a b;generalize dz gN (cn m s l)=t at *;obtain⟨es,bs⟩:=t;unfold fF at a b;simp only at *;rw[aD] at a;rw[sX,Dz] at b;exact⟨by omega,by omega⟩
theorem Dy (b:ab)(h:b≠[])(a:b.length<=70):(fm b).take 2=[13,10]∧5<=(fm b).length∧(fm b).length<=74:=by
 refine⟨rfl,?_,?_⟩
 . have:=mC.2 h;show 5<=b.length+1+1+1+1;omega
 . show b.length+1+1+1+1<=74;omega
def iS (l:List aA):Prop:=∃x∈l,x.b=5
def gO (l:List aA):Prop:=∀q e r,l=q++e::r->e.b=2->iS q
theorem iS.a {a b:List aA}(h:iS a):iS (a++b):=by grind [iS]
theorem gO.f:gO []:=by simp_all [gO]
theorem gO.e {q:List aA}{e:aA}(h:gO q)(f:e.b=2->iS q):gO (q++[e]):=by
 intro g i r a d;rcases mz r with rfl | ⟨j,x,rfl⟩
 . obtain⟨b,c⟩:=vk a rfl;subst b;injection c with c;subst c;exact f d
 . rw[lb,<-ge,<-ja] at a;obtain⟨b,_⟩:=vk a rfl;exact h g i j b d
theorem gO.j {a b:List aA}(h:gO (a++b)):gO a:=fun q e r c d=>h q e (r++b) (by rw[c];simp) d
theorem JG {l:List aA}{e:aA}(h:iS l∨e.b=5):iS (iF l e):=by grind [iS,iF,yf,te,rk]
theorem DI:∀(n:Nat) (l:List aA),l.length=n->gO l->gO (gr l)∧(iS l->iS (gr l))
 | 0,l,c,_=>by rw[iz c];exact⟨gO.f,fun h=>h⟩
 | n + 1, l, c, h => by
   rcases mz l with rfl | ⟨q,x,rfl⟩
   . exact⟨gO.f,fun h=>h⟩
   . rw[lb] at c h ⊢;obtain⟨d,g⟩:=DI n q (by simpa using c) h.j;have i:x.b=2->iS q:=fun b=>h q x [] rfl b;rw[C3];refine⟨?_,fun j=>JG ?_⟩
     . by_cases e:x.b=2∧jx (gr q)=true
       . obtain⟨p,y,f,a⟩:=yf e.2;rw[f] at d ⊢;rw[te p y x a e.1];exact d.j.e (fun _=>d p y [] rfl a)
       . rw[rk _ x (fun k=>by
          cases m:jx (gr q)
          . rfl
          . exact absurd ⟨k,m⟩ e)]
         exact d.e (fun b=>g (i b))
     . obtain⟨y,a,b⟩:=j;rcases eJ.1 a with a | a
       . exact Or.inl (g ⟨y,a,b⟩)
       . rw[cW.1 a] at b;exact Or.inr b
theorem gO.a {a b:List aA}(h:gO a)(c:∀e∈b,e.b≠2):gO (a++b):=by
 induction b generalizing a with
 | nil=>rw[fx];exact h
 | cons e r d =>
   have:=d (h.e (e:=e) (fun k=>absurd k (c e (lO ..)))) (fun x f=>c x (iN _ f));rw[ja] at this;exact this
theorem gO.r {a b:List aA}(h:gO a)(c:iS a):gO (a++b):=by
 induction b generalizing a with
 | nil=>rw[fx];exact h
 | cons e r d =>
   have:=d (h.e (e:=e) (fun _=>c)) c.a;rw[ja] at this;exact this
theorem JS (s:bi)(t:ab):(∀e∈(dZ s t).2,e.b≠2)∧(0<(dZ s t).1.f->0<s.f∨iS (dZ s t).2):=by
 unfold dZ;split
 . split
   . exact⟨fun e a=>by rw[cW.1 a];show(4:Int)≠2;decide,fun h=>absurd h (by decide)⟩
   . split
     . exact⟨fun e a=>by rw[cW.1 a];show(4:Int)≠2;decide,fun h=>absurd h (Nat.lt_irrefl 0)⟩
     . exact⟨(fun e a=>by cases a),fun h=>Or.inl h⟩
 . split
   . exact⟨fun e a=>by rw[cW.1 a];show(4:Int)≠2;decide,fun h=>absurd h (Nat.lt_irrefl 0)⟩
   . split
     . exact⟨fun e a=>by rw[cW.1 a];show(4:Int)≠2;decide,fun h=>absurd h (by decide)⟩
     . rename_i p _ _;exact⟨fun e a=>by rw[cW.1 a];show(5:Int)≠2;decide,fun _=>Or.inr ⟨wJ p,by simp,rfl⟩⟩
theorem Kx {m:ab}{s:bi}(c:UInt8){o:List aA}(h:gO o)(a:0<s.f->iS o):gO (o++(cB m s c).2)∧(0<(cB m s c).1.f->iS (o++(cB m s c).2)):=by
 unfold cB;split
 . exact⟨by rw[fx];exact h,fun k=>(a k).a⟩
 . split
   . show gO (o++if 0<s.f then _ else _)∧(0<s.f->_);by_cases b:0<s.f
     . rw[if_pos b];exact⟨h.r (a b),fun _=>(a b).a⟩
     . rw[if_neg b];exact⟨by rw[fx];exact h,fun k=>absurd k b⟩
   . split
     . split
       . exact⟨h.a (fun e d=>by rw[cW.1 d];show(4:Int)≠2;decide),fun k=>absurd k (Nat.lt_irrefl 0)⟩
       . split
         . obtain⟨f,g⟩:=JS { s with a:=bj s.a c } (cT s.a c);refine⟨h.a f,fun k=>?_⟩;rcases g k with k | ⟨x,i,j⟩
           . exact(a k).a
           . exact⟨x,List.mem_append_right _ i,j⟩
         . exact⟨by rw[fx];exact h,fun k=>(a k).a⟩
     . split
       . exact⟨h.a (fun e d=>by rw[cW.1 d];show(4:Int)≠2;decide),fun k=>absurd k (Nat.lt_irrefl 0)⟩
       . split
         . exact⟨h.a (fun e d=>by rw[cW.1 d];show(3:Int)≠2;decide),fun k=>absurd k (Nat.lt_irrefl 0)⟩
         . exact⟨by rw[fx];exact h,fun k=>(a k).a⟩
theorem DK (m:ab):∀(l:ab) (s:bi) (o:List aA),gO o->(0<s.f->iS o)->gO (o++cn m s l)
 | [],_,o,h,_=>by show gO (o++[]);rw[fx];exact h
 | c :: t, s, o, h, hp => by
   obtain⟨a,b⟩:=Kx (m:=m) c h hp;have:=DK m t (cB m s c).1 (o++(cB m s c).2) a b;rw[ja] at this;exact this
theorem Ky (m l:ab):gO (gr (cn m ii l)):=(DI _ _ rfl (by have:=DK m l ii [] gO.f (fun h=>absurd h (by decide));simpa using this)).1
theorem gO.q {l:List aA}(h:gO l){k:Nat}(a:k<l.length)(b:l[k].b=2):iS (l.take k):=h (l.take k) l[k] (l.drop (k+1)) (by rw[<-hJ a,iZ]) b
structure bT where
 c:ae
 b:ae
 d:ae
 a:ab
def fO (acc:List bT)(e:aA):List bT:=if e.b=5 then acc++[⟨e.g,e.f,e.h,e.c⟩] else if e.b=2 then acc.dropLast++(acc.getLast?.map fun p=>{ p with a:=e.a }).toList else acc
def fG (l:List aA):List bT:=l.foldl fO []
theorem DD (l:List aA)(e:aA):fG (l++[e])=fO (fG l) e:=by unfold fG;rw[sL];rfl
theorem Dp (a:List bT)(e:aA):a.length<=(fO a e).length∧(fO a e).length<=a.length+1:=by grind [fO]
theorem DE:∀(n:Nat) (l:List aA),l.length=n->iS l->0<(fG l).length
 | 0,l,b,⟨x,c,_⟩=>by rw[iz b] at c;cases c
 | n + 1, l, b, h => by
   rcases mz l with rfl | ⟨q,x,rfl⟩
   . obtain⟨_,c,_⟩:=h;cases c
   . rw[lb] at b h ⊢;rw[DD];obtain⟨y,a,d⟩:=h;rcases eJ.1 a with a | a
     . have:=DE n q (by simpa using b) ⟨y,a,d⟩;have:=(Dp (fG q) x).1;omega
     . rw[cW.1 a] at d;unfold fO;rw[if_pos d];simp
theorem Ds (l:List aA):(fG l).length<=l.length:=by
 have:∀(m:List aA) (o:List bT),(m.foldl fO o).length<=o.length+m.length:=by
  intro m;induction m with
  | nil=>intro o;simp
  | cons e r a=>intro o;rw[rf];have b:=a (fO o e);have c:=(Dp o e).2;simp only[bF];omega
 have h:=this l [];simpa[fG] using h
def bJ {α:Type}(f:Nat->α)(k:Nat)(a:α):Nat->α:=fun i=>if i=k then a else f i
theorem cZ {b:Type}(f:Nat->b)(k:Nat)(a:b):bJ f k a k=a:=if_pos rfl
theorem ei {b:Type}(f:Nat->b){k i:Nat}(a:b)(h:i≠k):bJ f k a i=f i:=if_neg h
theorem Ua {a:Type}(f:Nat->a)(k:Nat):bJ f k (f k)=f:=by
 funext i;unfold bJ;split
 . next h=>rw[h]
 . rfl
theorem pb {c:Type}(f:Nat->c)(k:Nat)(a b:c):bJ (bJ f k a) k b=bJ f k b:=by
 funext i;unfold bJ;split <;> rfl
def iT (l:ab):ae:=⟨l.toArray⟩
def pz (l:List gA):aC:=l.map fun p=>(iT p.1,iT p.2)
abbrev mX:=Nat×aC×ab
def zU:ab:=[98,111,117,110,100,97,114,121]
def wP:ab:=[109,117,108,116,105,112,97,114,116,47,102,111,114,109,45,100,97,116,97]
def Eb:ae:=⟨#[47,102,111,114,109]⟩
def D3:ae:=⟨#[80,79,83,84]⟩
def ui:ae:=⟨#[80,65,84,67,72]⟩
def rS:ab:=[102,105,108,101,110,97,109,101,32]
def up (t:ae):Bool:=decide (7<=t.size)&&decide (t.data.toList.take 7=ku.data.toList)
def zY (t:ae):Bool:=decide (t=od)||up t
def mj (l:aC):Option (ab) :=
 if (ba (aQ jM l)).2≠0 then U
 else match ee (ba (aQ jM l)).1 with
  | .inl _=>U
  | .inr x=>if x.1≠wP then U else ig zU x.2
def lw (b body:ab):Option (List bT) :=
 if iK b=true∧mR (cX (fm b) ii body)=0 then M (fG (gr (cn (fm b) ii body))) else U
def gP (ps:List bT):Nat:=(ps.map fun p=>p.a.length+200).sum
def mV (s:av)(ids:List Int):av:=ids.foldl (fun s i=>(gc s i).1) s
def nS (c:Nat):Nat:=if c=4 then 413 else 507
def mW (id:Int)(f:ae):ab:=bw 8 id.toNat++[32]++f.data.toList++[10]
def dA (p:bT):ae:=iT (rS++p.b.data.toList)
def ml (s:av)(made:List Int)(told:ab):List bT->av×mX
 | []=>(eG s,(201,[],told))
 | p :: r =>
   if p.b.size=0 then ml s made told r
   else if (cw s p.a.length (dA p)).2≠0 then (eG (mV s made),(nS (cw s p.a.length (dA p)).2,[],[]))
   else if (cK (cw s p.a.length (dA p)).1 (s.h.a+1) 0 p.a).2≠0 then
    (eG (mV (gc (cw s p.a.length (dA p)).1 (s.h.a+1)).1 made),(nS (cK (cw s p.a.length (dA p)).1 (s.h.a+1) 0 p.a).2,[],[]))
   else ml (cK (cw s p.a.length (dA p)).1 (s.h.a+1) 0 p.a).1 (made++[s.h.a+1]) (told++mW (s.h.a+1) p.b) r
def jh (s:av)(l:aC)(body:ab):av×mX:=match mj l with
 | none=>(s,(415,[],[]))
 | some b => match lw b body with
   | none=>(s,(400,[],[]))
   | some ps=>if 100000<s.a.length+gP ps then (s,(507,[],[])) else ml s [] [] ps
abbrev Ed:=av->ae->ae->aC->ab->av×iY
section
variable (T:Ed)
def mh (s:av)(m t:ae)(l:aC)(body:ab):av×mX :=
 if zY t=true then ((T s m t l body).1,((T s m t l body).2.1,(T s m t l body).2.2,[]))
 else if t≠Eb then (s,(404,[],[]))
 else if m≠D3 then (s,(405,[],[]))
 else jh s l body
def wQ (s:av)(h:df)(body:ab):av×mX:=mh T s (iT h.e) (iT h.b) (pz h.a) body
def mm (r:mX):ab:=(se (r.1:Int) r.2.1 (aQ ⟨#[99,111,110,116,101,110,116,45,108,101,110,103,116,104]⟩ r.2.1).length r.2.2).1
def pA (c:Nat):mX:=(if c=4 then 413 else 400,[],[])
structure eN where
 s:av
 c:df
 b:ab
 a:ab
def dj (g:eN):aU->eN
 | .head h=>{ g with c:=h }
 | .body b=>{ g with b:=g.b++b }
 | .fin=>{ s:=(wQ T g.s g.c g.b).1,c:=nh,b:=[],a:=g.a++mm (wQ T g.s g.c g.b).2 }
 | .fail c=>{ s:=g.s,c:=nh,b:=[],a:=g.a++mm (pA c) }
def ez (g:eN)(l:List aU):eN:=l.foldl (dj T) g
theorem ul (g:eN)(e:aU)(l:List aU):ez T g (e::l)=ez T (dj T g e) l:=rfl
theorem K8 (g:eN)(a b:List aU):ez T g (a++b)=ez T (ez T g a) b:=by unfold ez;rw[sL]
theorem Lz (g:eN)(a b:ab):dj T (dj T g (.body a)) (.body b)=dj T g (.body (a++b)):=by grind [dj]
theorem um:∀(l:List aU) (g:eN),ez T g (aE l)=ez T g l
 | [],_=>rfl
 | .head h::r,g=>um r (dj T g (.head h))
 | .fin::r,g=>um r (dj T g .fin)
 | .fail c::r,g=>um r (dj T g (.fail c))
 | .body a :: r, g => by
   have d:=um r (dj T g (.body a));rw[ul T g (.body a) r,<-d];show ez T g (match aE r with
    | .body b::q=>.body (a++b)::q
    | q=>.body a::q)=_
   cases f:aE r with
   | nil=>rfl
   | cons e q =>
     cases e with
     | body b=>rw[ul,ul,Lz]
     | head _=>rfl
     | fin=>rfl
     | fail _=>rfl
theorem LB (g:eN)(o:ab)(e:aU):dj T { g with a:=o++g.a } e={ dj T g e with a:=o++(dj T g e).a }:=by
 cases e with
 | head h=>rfl
 | body b=>rfl
 | fin=>simp only[dj,ja]
 | fail c=>simp only[dj,ja]
structure cY where
 c:bL
 a:df
 b:ab
def eL:cY:=⟨pJ,nh,[]⟩
def nR (s:av)(c:cY):eN:=⟨s,c.a,c.b,[]⟩
def uj (s:av)(c:cY)(b:ab):eN:=ez T (nR s c) (cV c.c b)
def mU (s:av)(c:cY)(b:ab):av×cY×ab:=((uj T s c b).s,⟨cL c.c b,(uj T s c b).c,(uj T s c b).b⟩,(uj T s c b).a)
def py (s:av)(c:cY):av:=if iT c.a.e=ui∧up (iT c.a.b)=true∧c.b≠[] then (T s (iT c.a.e) (iT c.a.b) (pz c.a.a) c.b).1 else s
theorem wR:∀(ids:List Int) {s:av},aK s->aK (mV s ids)
 | [],_,h=>h
 | i::r,_,h=>wR r (h.r i)
theorem zM:∀(b:List bT) {s:av} (made:List Int) (a:ab),aK s->aK (ml s made a b).1
 | [],_,_,_,h=>h.e
 | p :: r, s, made, a, h => by
   unfold ml;split
   . exact zM r made a h
   . split
     . exact(wR made h).e
     . split
       . exact(wR made ((h.f _ _).r _)).e
       . exact zM r _ _ ((h.f _ _).a _ _ _)
theorem Lo {s:av}(h:aK s)(l:aC)(body:ab):aK (jh s l body).1:=by grind [jh,zM]
theorem Lb (a:∀{s:av},aK s->∀m t l body,aK (T s m t l body).1){s:av}(h:aK s)(m t:ae)(l:aC)(body:ab):aK (mh T s m t l body).1:=by grind [mh,Lo]
theorem zX (a:∀{s:av},aK s->∀m t l body,aK (T s m t l body).1){g:eN}(h:aK g.s)(e:aU):aK (dj T g e).s:=by
 cases e with
 | head _=>exact h
 | body _=>exact h
 | fin=>exact Lb T a h _ _ _ _
 | fail _=>exact h
theorem D9 (a:∀{s:av},aK s->∀m t l body,aK (T s m t l body).1):∀(l:List aU) {g:eN},aK g.s->aK (ez T g l).s
 | [],_,h=>h
 | e::r,_,h=>D9 a r (zX T a h e)
theorem Lp (a:∀{s:av},aK s->∀m t l body,aK (T s m t l body).1){s:av}(h:aK s)(c:cY)(b:ab):aK (mU T s c b).1:=D9 T a (g:=nR s c) _ h
theorem Lq (a:∀{s:av},aK s->∀m t l body,aK (T s m t l body).1){s:av}(h:aK s)(c:cY):aK (py T s c):=by
 unfold py;split
 . exact a h _ _ _ _
 . exact h
end
structure pw (r:mX):Prop where
 c:r.2.1.length<=5
 d:∀p∈r.2.1,p.1.size<=2000∧p.2.size<=2000
 b:r.2.2.length<=2000
theorem pw.a (st:Nat):pw (st,[],[]):=⟨ax _,fun p a=>by simp at a,ax _⟩
def pv (r:iY):Prop:=r.2.length<=5∧∀p∈r.2,p.1.size<=2000∧p.2.size<=2000
theorem wT (n:Nat):(eW n).size<=9:=by
 unfold eW;show(bw 8 n).toArray.size<=_;rw[cx];exact(gz 8 n).1
theorem wN (st:Nat)(l:aC)(b:l.length<=4)(h:∀p∈l,p.1.size<=2000∧p.2.size<=2000):pv (bR st l):=by
 refine⟨by show l.length+1<=5;omega,fun p a=>?_⟩;rcases fS.1 a with rfl | a
 . exact⟨by decide,by decide⟩
 . exact h p a
theorem lv (st:Nat):pv (bR st []):=wN st [] (ax _) (fun p a=>by cases a)
theorem zW (st:Nat)(a b:ae)(ha:a.size<=2000)(c:b.size<=2000):pv (bR st [(a,b)]):=by grind [pv,bR,wN]
theorem Lr (s:av)(m:ae)(l:aC):pv (nu s m l).2:=by
 unfold nu;repeat' split
 all_goals first
  | exact lv _
  | exact zW _ _ _ (by decide) (by rw[jq];have:=wT (s.h.a+1).toNat;have:ku.size=7:=rfl;omega)
theorem Li (s:av)(u:aN)(l:aC)(body:ab):pv (mw s u l body).2:=by
 unfold mw;split
 . exact lv _
 . split
   . exact lv _
   . split
     . exact lv _
     . split
       . exact lv _
       . split
         . exact lv _
         . split
           . exact lv _
           . split
             . exact lv _
             . split
               . exact lv _
               . exact zW _ _ _ (by decide) (by have:=wT (u.b.length+body.length);omega)
theorem Ls (u:aN)(h:u.d.size<=100):pv (jN u):=by
 unfold jN;refine wN 200 _ ?_ (fun p a=>?_)
 . simp only[bF];split <;> simp
 . rcases fS.1 a with rfl | a
   . exact⟨show dm.size<=2000 by decide,by have:=wT u.b.length;show(eW u.b.length).size<=_;omega⟩
   . rcases fS.1 a with rfl | a
     . split
       . exact⟨by decide,by decide⟩
       . exact⟨show gC.size<=2000 by decide,by have:=wT u.a.toNat;show(eW u.a.toNat).size<=_;omega⟩
     . rcases fS.1 a with rfl | a
       . exact⟨by decide,by decide⟩
       . split at a
         . cases a
         . rw[cW.1 a];exact⟨show ir.size<=2000 by decide,by show u.d.size<=_;omega⟩
theorem Ea {s:av}(ok:aK s)(m t:ae)(l:aC)(body:ab):pv (br s m t l body).2:=by
 unfold br;split
 . exact wN _ _ (by decide) (by decide)
 . split
   . exact lv _
   . split
     . exact zW _ _ _ (by decide) (by decide)
     . split
       . exact Lr s m l
       . split
         . exact lv _
         . rename_i u a;unfold qS;split
           . exact Ls u (ok.h.a u (Bj a).1).b
           . split
             . exact lv _
             . split
               . exact Li s u l body
               . exact lv _
theorem zN {s:av}{z:Int}{m:ae}(h:(cw s z m).2=0):(cw s z m).1.h.l.length=s.h.l.length+1∧m.size<=100:=by
 unfold cw bH at h ⊢;split
 . rename_i a;rw[if_pos a] at h;exact absurd h a
 . rename_i a;rw[if_neg a] at h;split
   . rename_i c;rw[if_pos c] at h;exact absurd h (by simp)
   . rename_i c;rw[if_neg c] at h;split
     . rename_i b;rw[if_pos b] at h;exact absurd h (by simp)
     . skip;show(nr s.h z m).1.l.length=_∧_;unfold nr fb at a ⊢;split
       . rename_i b;rw[if_pos b] at a;exact absurd (by simp) a
       . rename_i b;rw[if_neg b] at a;split
         . rename_i d;rw[if_pos d] at a;exact absurd (by simp) a
         . rename_i d;rw[if_neg d] at a;split
           . rename_i e;rw[if_pos e] at a;exact absurd (by simp) a
           . rename_i e;rw[if_neg e] at a;split
             . rename_i f;rw[if_pos f] at a;exact absurd (by simp) a
             . exact⟨by simp,by omega⟩
theorem D7 (s:av)(c a:Int)(b:ab):(cK s c a b).1.h.l.length=s.h.l.length:=by
 have d:(iM s.h c a b).1.l.length=s.h.l.length:=by
  unfold iM cO;split
  . rfl
  . split
    . rfl
    . simp only[];repeat' split
      all_goals first
       | rfl
       | (show(List.set _ _ _).length=_;rw[pP])
 unfold cK bH;repeat' split
 all_goals first
  | rfl
  | exact d
theorem D4 (a:Int)(f:ae):(mW a f).length<=11+f.size:=by
 unfold mW;have:=(gz 8 a.toNat).1;have b:f.data.toList.length=f.size:=by rw[cI];rfl
 simp only[aD,bF,iy];omega
theorem zZ:∀(b:List bT) {s:av} (made:List Int) (a:ab),aK s->a.length<=120*s.h.l.length->pw (ml s made a b).2
 | [],s,_,a,ok,h=>⟨ax _,(fun p c=>by cases c),(by have:=ok.h.b;show a.length<=_;omega)⟩
 | p :: r, s, made, a, ok, h => by
   unfold ml;split
   . exact zZ r made a ok h
   . split
     . exact pw.a _
     . rename_i d;split
       . exact pw.a _
       . have f:(cw s p.a.length (dA p)).2=0:=by
          rcases Nat.eq_zero_or_pos (cw s p.a.length (dA p)).2 with e | e
          . exact e
          . exact absurd (by omega) d
         obtain⟨g,i⟩:=zN f;refine zZ r _ _ ((ok.f _ _).a _ _ _) ?_;rw[D7,g,aD];have j:(dA p).size=9+p.b.size:=by
          show(rS++p.b.data.toList).toArray.size=_;rw[cx,aD,cI];rfl
         have:=D4 (s.h.a+1) p.b;omega
theorem K9 {s:av}(ok:aK s)(l:aC)(body:ab):pw (jh s l body).2:=by grind [jh,pw.a,zZ]
theorem Ef {s:av}(ok:aK s)(m t:ae)(l:aC)(body:ab):pw (mh br s m t l body).2:=by
 unfold mh;split
 . exact⟨(Ea ok m t l body).1,(Ea ok m t l body).2,ax _⟩
 . split
   . exact pw.a _
   . split
     . exact pw.a _
     . exact K9 ok l body
theorem Lj (p:ae×ae):(jn p).length<=202:=by
 unfold jn;rw[aD];have:(bO p.1.data.toList p.2.data.toList).1.length<=200:=by
  unfold bO;repeat' split
  all_goals first
   | exact ax _
   | (simp only[aD,bF,iy];omega)
 simp only[bF,iy];omega
theorem D6:∀l:aC,(l.flatMap jn).length<=202*l.length
 | []=>ax _
 | p :: r => by
   rw[oi,aD,bF];have:=Lj p;have:=D6 r;omega
theorem Lk (st:Int)(l:aC)(a:Nat)(body:ab):(se st l a body).1.length<=4000+body.length:=by
 unfold se;split
 . exact ax _
 . split
   . exact ax _
   . split
     . exact ax _
     . split
       . exact ax _
       . have b:=D6 l;have c:=FV st;have d:=(gz 8 st.toNat).1;have e:=(gz 8 body.length).1;have f:FX.length=9:=rfl;have g:xt.length=16:=rfl;simp only[kh,aD,bF,iy];omega
theorem D5 {r:mX}(h:pw r):(mm r).length<=6000:=by
 unfold mm;have:=Lk (r.1:Int) r.2.1 (aQ ⟨#[99,111,110,116,101,110,116,45,108,101,110,103,116,104]⟩ r.2.1).length r.2.2;have:=h.b;omega
theorem Ee (c:Nat):pw (pA c):=pw.a _
structure pu (c:cY):Prop where
 b:fJ c.c
 a:jo c.a
theorem zO:jo nh:=⟨ax _,ax _,ax _,ax _,fun f a=>by cases a⟩
theorem pu.e:pu eL:=⟨fJ.y,zO⟩
section
variable (T:Ed)
theorem Ec {g:eN}{e:aU}(h:jo g.c)(a:e.e):jo (dj T g e).c:=by
 cases e with
 | head x=>exact a
 | body b=>exact h
 | fin=>exact zO
 | fail c=>exact zO
theorem D8:∀(l:List aU) {g:eN},jo g.c->(∀e∈l,e.e)->jo (ez T g l).c
 | [],_,h,_=>h
 | e::r,_,h,he=>D8 r (Ec T h (he e (by simp))) (fun x a=>he x (by simp[a]))
theorem zL:∀(l:List aU) (g:eN),(ez T g l).b.length<=g.b.length+bP l
 | [],_=>am _
 | e :: r, g => by
   have h:=zL r (dj T g e);rw[ul];cases e with
   | head x=>exact h
   | body b =>
     have a:(dj T g (.body b)).b.length=g.b.length+b.length:=aD;show _<=_+(b.length+bP r);omega
   | fin =>
     have a:(dj T g .fin).b.length=0:=rfl;show _<=_+bP r;omega
   | fail c =>
     have a:(dj T g (.fail c)).b.length=0:=rfl;show _<=_+bP r;omega
theorem Lt {c:cY}(h:pu c)(s:av)(b:ab):pu (mU T s c b).2.1:=⟨h.b.j b,D8 T _ (g:=nR s c) h.a (A4 b h.b)⟩
theorem Lc (s:av)(c:cY)(b:ab):(mU T s c b).2.1.b.length<=c.b.length+b.length:=by
 have a:=zL T (cV c.c b) (nR s c);have e:=(xv b c.c).2.1;show(ez T (nR s c) (cV c.c b)).b.length<=_;have d:(nR s c).b=c.b:=rfl;rw[d] at a;omega
end
theorem La {g:eN}(ok:aK g.s)(e:aU):(dj br g e).a.length<=g.a.length+6000:=by
 cases e with
 | head x=>exact dT _ _
 | body b=>exact dT _ _
 | fin =>
   show(g.a++mm _).length<=_;rw[aD];have:=D5 (Ef ok (iT g.c.e) (iT g.c.b) (pz g.c.a) g.b);unfold wQ;omega
 | fail c =>
   show(g.a++mm _).length<=_;rw[aD];have:=D5 (Ee c);omega
theorem Ab:∀(l:List aU) {g:eN},aK g.s->(ez br g l).a.length<=g.a.length+6000*l.length
 | [],_,_=>by simp[ez]
 | e :: r, g, ok => by
   have a:=La ok e;have c:=Ab r (zX br (fun h m t l b=>Bk h m t l b) ok e);rw[ul,bF];omega
structure kN where
 c:Int
 a:Int
 n:Int
 b:ab
structure cu where
 s:av
 c:Nat->cY
 a:List Int
def mZ:cu:=⟨iX,fun _=>eL,[]⟩
structure mn where
 a:Nat
 b:ab
 c:ab
def AL:ae:=⟨#[47,116,97,107,101,47]⟩
def qA:ae:=⟨#[72,111,115,116]⟩
def qB:ae:=⟨#[105,110,108,97,110,100]⟩
def lA (m:ae):aC:=(qA,qB)::if m.size=0 then [] else [(ir,m)]
def AN (id:Int):ae:=AL++eW id.toNat
def AM (u:aN):df:=⟨uU.data.toList,(AN u.c).data.toList,0,(lA u.d).map fun p=>(p.1.data.toList,p.2.data.toList),0⟩
def nV (u:aN):ab:=(jp (AM u) u.b).1
def FF (s:aB)(id:Int):Option aN:=match cE s.l id with
 | none=>U
 | some i=>s.l[i]?
def sc (s:aB)(id:Int):ab:=match FF s id with
 | none=>[]
 | some u=>nV u
def pE (k:Int):Prop:=0<=k∧k<4
instance (k:Int):Decidable (pE k):=by unfold pE;exact inferInstance
def kO (p:cu)(k:Int)(b:ab):cu×mn :=
 if pE k then (⟨(mU br p.s (p.c k.toNat) b).1,bJ p.c k.toNat (mU br p.s (p.c k.toNat) b).2.1,p.a⟩,⟨if (p.c k.toNat).c.a=4 then 18 else 0,(mU br p.s (p.c k.toNat) b).2.2,[]⟩)
 else (p,⟨1,[],[]⟩)
def lz (p:cu)(k:Int):cu×mn :=
 if pE k then (⟨py br p.s (p.c k.toNat),bJ p.c k.toNat eL,p.a⟩,⟨0,[],[]⟩) else (p,⟨1,[],[]⟩)
def oO (p:cu)(id:Int):cu×mn :=
 if (fr p.s id).2≠0 then (p,⟨(fr p.s id).2,[],[]⟩)
 else (⟨eG (fr p.s id).1,p.c,p.a++[id]⟩,⟨0,[],sc (fr p.s id).1.h id⟩)
def oN (p:cu)(id:Int):cu×mn :=
 if (kY p.s id).2≠0 then (p,⟨(kY p.s id).2,[],[]⟩) else (⟨eG (kY p.s id).1,p.c,p.a⟩,⟨0,[],[]⟩)
def uH (p:cu)(keep:Int):cu×mn:=(⟨gX p.s keep,fun _=>eL,p.a⟩,⟨0,[],[]⟩)
def gR (p:cu)(x:kN):cu×mn :=
 if x.c=1 then kO p x.a x.b else if x.c=2 then lz p x.a else if x.c=3 then oO p x.n else if x.c=4 then oN p x.n else if x.c=5 then uH p x.n else (p,⟨11,[],[]⟩)
def jm (s:av):Prop:=∃es m,ft s es m
theorem jm.a {s:av}(h:jm s):iu (eG s):=h.elim fun _ h=>h.elim fun _ h=>xJ h
theorem jm.e {s:av}(h:iu s):jm s:=h.elim fun a h=>⟨a,a.length,h⟩
theorem jm.j {s:av}(h:jm s)(x:nk):jm (kn s x).1:=h.elim fun _ h=>h.elim fun _ h=>h.q x
theorem jm.f {s:av}(h:jm s)(a:Int):jm (gc s a).1:=h.elim fun _ h=>h.elim fun m h=>(P1 h a).elim fun b h=>⟨b,m,h⟩
theorem jm.q {s:av}(h:jm s)(z:Int)(t:ae):jm (cw s z t).1:=h.elim fun _ h=>h.elim fun m h=>(GS h z t).elim fun a h=>⟨a,m,h⟩
theorem jm.r {s:av}(h:jm s)(c a:Int)(b:ab):jm (cK s c a b).1:=h.elim fun _ h=>h.elim fun m h=>(Bm h c a b).elim fun d h=>⟨d,m,h⟩
theorem AO:∀(ids:List Int) {s:av},jm s->jm (mV s ids)
 | [],_,h=>h
 | i::r,_,h=>AO r (h.f i)
theorem AP:∀(b:List bT) {s:av} (made:List Int) (a:ab),jm s->iu (ml s made a b).1
 | [],_,_,_,h=>h.a
 | p :: r, s, made, a, h => by
   unfold ml;split
   . exact AP r made a h
   . split
     . exact(AO made h).a
     . split
       . exact(AO made ((h.q _ _).f _)).a
       . exact AP r _ _ ((h.q _ _).r _ _ _)
theorem FA {s:av}(h:iu s)(m t:ae)(l:aC)(body:ab):iu (br s m t l body).1:=by
 unfold br qS;repeat' split
 all_goals first
  | exact h
  | exact P2 h m l
  | exact((jm.e h).f _).a
  | exact PZ h _ l body
theorem NX {s:av}(h:iu s)(m t:ae)(l:aC)(body:ab):iu (mh br s m t l body).1:=by
 unfold mh jh;repeat' split
 all_goals first
  | exact h
  | exact FA h m t l body
  | exact AP _ _ _ (jm.e h)
theorem FD:∀(l:List aU) {g:eN},iu g.s->iu (ez br g l).s
 | [],_,h=>h
 | e :: r, g, h => FD r (g := dj br g e) (by
   cases e with
   | fin=>exact NX h _ _ _ _
   | head _=>exact h
   | body _=>exact h
   | fail _=>exact h)
theorem N1 {s:av}(h:iu s)(c:cY):iu (py br s c):=by
 unfold py;split
 . exact FA h _ _ _ _
 . exact h
theorem NY {s:av}(h:jm s)(a:Int):jm (fr s a).1:=h.j ⟨4,a,0,⟨#[]⟩⟩
theorem N4 {s:av}(h:jm s)(a:Int):jm (kY s a).1:=h.j ⟨5,a,0,⟨#[]⟩⟩
theorem NZ {s:av}(h:iu s)(k:Int):gX s k=s:=h.elim fun _ h=>Px h k
structure jI (p:cu)(n:Nat):Prop where
 s:aK p.s
 b:iu p.s
 c:∀k,pu (p.c k)
 a:∀k,(p.c k).b.length<=n
theorem jI.f:jI mZ 0:=⟨aK.jL,iu.a,fun _=>pu.e,fun _=>am _⟩
theorem jI.e {p:cu}{n m:Nat}(h:jI p n)(a:n<=m):jI p m:=⟨h.s,h.b,h.c,fun k=>co (h.a k) a⟩
theorem xk {b:Type}{aaw:b->Prop}{f:Nat->b}{a:b}(k:Nat)(c:∀i,aaw (f i))(ha:aaw a):∀i,aaw (bJ f k a i):=fun i=>by
 unfold bJ;split
 . exact ha
 . exact c i
theorem FE:∀{s:av},aK s->∀m t l body,aK (br s m t l body).1:=fun h m t l b=>Bk h m t l b
theorem jI.j {p:cu}{n:Nat}(h:jI p n)(x:kN):jI (gR p x).1 (n+x.b.length):=by
 have a:=h.e (dT n x.b.length);unfold gR;split
 . unfold kO;split
   . refine⟨Lp br FE h.s _ _,FD _ (g:=nR p.s _) h.b,xk _ h.c (Lt br (h.c _) _ _),xk (aaw:=fun c:cY=>c.b.length<=n+x.b.length) _ a.a ?_⟩;have:=Lc br p.s (p.c x.a.toNat) x.b;have:=h.a x.a.toNat;omega
   . exact a
 . split
   . unfold lz;split
     . exact⟨Lq br FE h.s _,N1 h.b _,xk _ h.c pu.e,xk (aaw:=fun c:cY=>c.b.length<=n+x.b.length) _ a.a (ax _)⟩
     . exact a
   . split
     . unfold oO;split
       . exact a
       . exact⟨(h.s.y _).e,(NY (jm.e h.b) _).a,h.c,a.a⟩
     . split
       . unfold oN;split
         . exact a
         . exact⟨(h.s.G _).e,(N4 (jm.e h.b) _).a,h.c,a.a⟩
       . split
         . refine⟨h.s.B _,?_,fun _=>pu.e,fun _=>ax _⟩;show iu (gX p.s x.n);rw[NZ h.b];exact h.b
         . exact a
def jf (n:Nat):ab:=bw 8 n
def fE (n:Int):ab:=if n<0 then 45::jf (-n).toNat else jf n.toNat
def kA (l:ab):Option Int:=if (bB 10 9 l).2=true∧jf (bB 10 9 l).1.toNat=l then M (bB 10 9 l).1 else U
def mc (l:ab):ab:=l.take (aV 32 l)
def nM (l:ab):ab:=l.drop (aV 32 l+1)
def oK (l:ab):Option kN:=match kA (mc l),fD (nM l) with
 | some k,M b=>if aV 32 l<l.length then M ⟨1,k,0,b⟩ else U
 | _,_=>U
def CG:ab:=[98,121,116,101,115]
def CP:ab:=[100,114,111,112]
def CQ:ab:=[115,101,110,100]
def CR:ab:=[116,111,108,100]
def CH:ab:=[99,114,97,115,104]
def qr (l:ab):Option kN :=
 if mc l=CG then oK (nM l) else match kA (nM l) with
 | none=>U
 | some n=>if mc l=CP then M ⟨2,n,0,[]⟩ else if mc l=CQ then M ⟨3,0,n,[]⟩ else if mc l=CR then M ⟨4,0,n,[]⟩ else if mc l=CH then M ⟨5,0,n,[]⟩ else U
def fN (ws:List (ab)):ab:=[32].intercalate ws++[10]
def rO (o:mn):ab:=if o.a≠0 then fN [[110,111],jf o.a] else if o.c≠[] then fN [[117,112],dd o.c] else if o.b≠[] then fN [[111,117,116],dd o.b] else fN [[111,107]]
def jz (u:aN):ab:=fN [[117,112,108,111,97,100],fE u.c,fE u.a,jf u.b.length,fE u.e,dd u.d.data.toList]
def qp (l:List aN):ab:=l.flatMap jz++fN [[101,110,100]]
def jA (p:cu)(l:ab):cu×ab :=
 if l=[] then (p,[]) else if l=[108,105,115,116] then (p,qp p.s.h.l) else if l=[108,111,103] then (p,fN [[108,111,103],jf p.s.a.length,jf p.s.b]) else match qr l with
 | none=>(p,fN [[119,104,97,116]])
 | some x=>((gR p x).1,rO (gR p x).2)
def dY (p:cu):List (ab)->cu×ab
 | []=>(p,[])
 | l::r=>((dY (jA p l).1 r).1,(jA p l).2++(dY (jA p l).1 r).2)
def nL:List (ab)->Option Nat
 | []=>U
 | l::r=>if 10∈l then M 0 else (nL r).map (·+1)
theorem Cw (p:cu):∀(a b:List (ab)),dY p (a++b)=((dY (dY p a).1 b).1,(dY p a).2++(dY (dY p a).1 b).2)
 | [],b=>by simp[dY]
 | x::a,b=>by simp only[ge,dY,Cw _ a b,ja]
theorem IN {l:ab}{x:kN}(h:oK l=M x):x.b.length<=l.length:=by
 unfold oK at h;split at h
 . rename_i k b c a;split at h
   . injection h with h;have:=Cy _ _ (am _) b a;unfold nM at this;rw[cQ] at this;rw[<-h];show b.length<=_;omega
   . cases h
 . cases h
theorem zg {l:ab}{x:kN}(h:qr l=M x):x.b.length<=l.length:=by
 unfold qr at h;split at h
 . have:=IN h;unfold nM at this;rw[cQ] at this;omega
 . split at h
   . cases h
   . repeat' split at h
     all_goals first | (injection h with h;rw[<-h];exact ax _) | cases h
theorem uf {l:ab}{p:Nat}(n:p<=l.length)(f:∀j (b:j<l.length),p<=j->nO l[j]=F)(g:p=0∨∃h:p-1<l.length,0<p∧nO l[p-1]=true):mT l=l.drop p:=by
 have e:l.reverse=(l.drop p).reverse++(l.take p).reverse:=by rw[<-List.reverse_append,iZ]
 have ha:∀c∈(l.drop p).reverse,(!nO c)=true:=by
  intro c d;rw[List.mem_reverse] at d;obtain⟨j,b,rfl⟩:=List.getElem_of_mem d;rw[cQ] at b;rw[List.getElem_drop,f (p+j) (by omega) (by omega)];rfl
 have i:(l.take p).reverse.takeWhile (fun c=>!nO c)=[]:=by
  rcases g with rfl | ⟨h,o,k⟩
  . rfl
  . obtain⟨q,rfl⟩:∃q,p=q+1:=⟨p-1,by omega⟩;have m:q<l.length:=by simpa using h
    have a:nO l[q]=true:=by simpa using k
    rw[fR m,List.reverse_append];show(l[q]::(l.take q).reverse).takeWhile _=[];rw[vu,a];rfl
 unfold mT;rw[e,List.takeWhile_append_of_pos ha,i,fx,List.reverse_reverse]
theorem JT {c:UInt8}(h:mg c=F):kG c=c:=by unfold kG;rw[h];rfl
def kb (k:Nat)(l:ab):ab:=(l.take k).map kG++l.drop k
theorem zF (k:Nat)(l:ab):(kb k l).length=l.length:=by grind [kb]
theorem JI (l:ab):kb 0 l=l:=rfl
theorem JU (l:ab):kb l.length l=l.map kG:=by unfold kb;rw[fL,List.drop_length,fx]
theorem Kd {k:Nat}{l:ab}(h:k<l.length):(kb k l)[k]'(by rw[zF];exact h)=l[k]:=by grind [kb]
theorem JJ {k:Nat}{l:ab}(h:k<l.length):kb (k+1) l=(kb k l).set k (kG l[k]):=by
 unfold kb;rw[fR h,lM,hJ h,sD _ _ (by rw[iv,bV];omega)];rw[iv,bV,pS (Nat.le_of_lt h),Nat.sub_self];simp;rw[hJ h];rfl
theorem JK {k:Nat}{l:ab}(h:k<l.length)(hd:mg l[k]=F):kb (k+1) l=kb k l:=by
 unfold kb;rw[fR h,lM,hJ h];simp[JT hd]
theorem DL {c:UInt8}{t:ab}(h:c≠37):iQ (c::t)=(iQ t).map (c::·):=by rw[iQ.eq_def];simp only[];rw[if_neg h]
theorem DO {a b:UInt8}{r:ab}(ha:0<=aF a.toNat)(c:0<=aF b.toNat):iQ (37::a::b::r)=(iQ r).map ((16*aF a.toNat+aF b.toNat).toNat.toUInt8::·):=by grind [aF,iQ]
theorem DP {a b:UInt8}{r:ab}(h:¬(0<=aF a.toNat∧0<=aF b.toNat)):iQ (37::a::b::r)=U:=by
 rw[iQ.eq_def];simp only[];rw[if_pos trivial,if_neg h]
theorem zx {t:ab}(h:t.length<2):iQ (37::t)=U:=by
 match t,h with
 | [],_=>rw[iQ.eq_def];simp only[];rw[if_pos trivial]
 | [_],_=>rw[iQ.eq_def];simp only[];rw[if_pos trivial]
 | _::_::_,h=>simp at h;omega
def jB (bs r:ab):Option (ab):=(iQ r).map (bs++·)
theorem Kz (bs:ab):jB bs []=M bs:=by unfold jB;rw[iQ];simp
theorem Kf {bs:ab}{c:UInt8}{t:ab}(h:c≠37):jB bs (c::t)=jB (bs++[c]) t:=by
 unfold jB;rw[DL h,Option.map_map];congr 1;funext x;simp
theorem KA {bs:ab}{a b:UInt8}{r:ab}(ha:0<=aF a.toNat)(c:0<=aF b.toNat):jB bs (37::a::b::r)=jB (bs++[(16*aF a.toNat+aF b.toNat).toNat.toUInt8]) r:=by
 unfold jB;rw[DO ha c,Option.map_map];congr 1;funext x;simp
theorem KB {bs:ab}{a b:UInt8}{r:ab}(h:¬(0<=aF a.toNat∧0<=aF b.toNat)):jB bs (37::a::b::r)=U:=by unfold jB;rw[DP h];rfl
theorem JV {bs t:ab}(h:t.length<2):jB bs (37::t)=U:=by unfold jB;rw[zx h];rfl
theorem JX (r:ab):jB [] r=iQ r:=by unfold jB;simp
theorem J0 (a b:UInt8):bB 16 6 [a,b]=if 0<=aF a.toNat∧0<=aF b.toNat then (16*aF a.toNat+aF b.toNat,true) else (0,F):=by
 have c:¬(6:Int)<(([a,b]:ab).length:Int):=by simp
 by_cases h:0<=aF a.toNat∧0<=aF b.toNat
 . rw[if_pos h,yS 16 6 _ (by simp) c (by rw[re,re,wg,wg,bq h.1,bq h.2];rfl)];unfold lq;simp only[rf,List.foldl_nil];rw[show(0:Int)*16+aF a.toNat=aF a.toNat by omega,show aF a.toNat*16+aF b.toNat=16*aF a.toNat+aF b.toNat by omega]
 . rw[if_neg h,yI 16 6 _ (by
    rw[re,re,wg,wg];simp only[List.all_nil,Bool.and_true];rw[pT,cz,cz];rcases Decidable.not_and_iff_not_or_not.1 h with h | h
    . exact Or.inl h
    . exact Or.inr h)]
theorem KC {a b:UInt8}(ha:0<=aF a.toNat)(c:0<=aF b.toNat):((16*aF a.toNat+aF b.toNat).toNat.toUInt8.toNat:Int)=16*aF a.toNat+aF b.toNat∧16*aF a.toNat+aF b.toNat<=255:=by
 have d:=(oJ a).2;have f:=(oJ b).2;generalize aF (a.toNat:Int)=x at *;generalize aF (b.toNat:Int)=y at *;refine⟨?_,by omega⟩;have:(16*x+y).toNat<256:=by omega
 have e:(16*x+y).toNat.toUInt8.toNat=(16*x+y).toNat:=by simp[Nat.toUInt8];omega
 rw[e];omega
def kB (d:ab×Nat):Nat ⊕ List cU :=
 if d.2≠0 then .inl d.2
 else match ee d.1 with
  | .inl c=>.inl c
  | .inr x=>if x.1≠qu then .inl 11 else .inr x.2
def ue (ps:List cU)(t:ab×Nat):Nat ⊕ oL :=
 match ig wI ps with
 | none=>.inl 6
 | some nm => match lu ps with
   | none=>.inl 5
   | some f=>if t.2=9 then .inl 9 else .inr ⟨nm,f,t.1⟩
theorem JL (d t:ab×Nat):mS d t=match kB d with
 | .inl c=>.inl c
 | .inr b=>ue b t:=by
 unfold mS kB ue;by_cases h:d.2≠0
 . rw[if_pos h,if_pos h]
 . rw[if_neg h,if_neg h];cases ee d.1 with
   | inl c=>rfl
   | inr x =>
     simp only;by_cases a:x.1≠qu
     . rw[if_pos a,if_pos a]
     . rw[if_neg a,if_neg a];all_goals
        simp only;cases get KM x.2 with
        | none=>rfl
        | some e=>cases file x.2 <;> rfl
theorem KD {d:ab×Nat}{c:Nat}(h:d.2=0)(a:ee d.1=.inl c):kB d=.inl c:=by unfold kB;rw[if_neg (fun e=>e h),a]
theorem Kh {d:ab×Nat}{x:ab×List cU}(h:d.2=0)(a:ee d.1=.inr x)(b:x.1≠qu):kB d=.inl 11:=by unfold kB;rw[if_neg (fun e=>e h),a];exact if_pos b
theorem KH {d:ab×Nat}{x:ab×List cU}(h:d.2=0)(a:ee d.1=.inr x)(b:x.1=qu):kB d=.inr x.2:=by simp_all [cU,ee,qu,kB]
theorem zy:∀(n:Nat) (l y:ab),l.length<=n->iQ l=M y->y.length<=l.length
 | _,[],y,_,h=>by rw[iQ] at h;injection h with h;subst h;exact am _
 | 0,_::_,_,hn,_=>by simp at hn
 | n + 1, c :: t, y, hn, h => by
   simp only[bF] at hn;by_cases f:c=37
   . subst f;match t,hn,h with
     | [],_,h=>rw[zx (by simp)] at h;cases h
     | [_],_,h=>rw[zx (by simp)] at h;cases h
     | a :: b :: r, hn, h =>
       by_cases d:0<=aF a.toNat∧0<=aF b.toNat
       . rw[DO d.1 d.2] at h;obtain⟨z,e,rfl⟩:=xT.1 h;have:=zy n r z (by simp only[bF] at hn;omega) e;simp only[bF];omega
       . rw[DP d] at h;cases h
   . rw[DL f] at h;obtain⟨z,e,rfl⟩:=xT.1 h;have:=zy n t z (by omega) e;simp only[bF];omega
theorem Kn {l y:ab}(h:ka l=M y):y.length<=l.length:=by
 unfold ka at h;split at h
 . cases h
 . have:=zy _ _ _ (am _) h;rw[cQ] at this;omega
theorem DM:∀(n:Nat) (r:ab) (a b:List cU),a.length<=8->jl n r a=.inr b->b.length<=8
 | 0,r,a,b,c,h=>by rw[jl] at h;injection h with h;subst h;exact c
 | n + 1, r, a, b, c, h => by
   rw[jl] at h;split at h
   . injection h with h;subst h;exact c
   . split at h
     . cases h
     . split at h
       . cases h
       . split at h
         . cases h
         . rename_i d;exact DM n _ _ b (by rw[aD];simp;omega) h
theorem DB {l wd:ab}{a:List cU}(h:ee l=.inr (wd,a)):a.length<=8:=by
 unfold ee at h;split at h
 . cases h
 . split at h
   . cases h
   . unfold kI at h;split at h
     . cases h
     . rename_i b;injection h with h;injection h with _ h;subst h;exact DM _ _ _ _ (ax _) b
theorem KE {d:ab×Nat}{a:List cU}(h:kB d=.inr a):a.length<=8∧∀p∈a,p.2.length<=d.1.length:=by
 unfold kB at h;split at h
 . cases h
 . split at h
   . cases h
   . rename_i x b;split at h
     . cases h
     . injection h with h;subst h;exact⟨DB b,fun p c=>((AI b).2 p c).2⟩
structure jF where
 s:av
 a:List Int
 c:ab
 b:Nat
def eZ (r:jF)(p:bT):jF :=
 if (cw r.s p.a.length (dA p)).2≠0 then { r with b:=(cw r.s p.a.length (dA p)).2 }
 else if (cK (cw r.s p.a.length (dA p)).1 (r.s.h.a+1) 0 p.a).2≠0 then
  { r with s:=(gc (cK (cw r.s p.a.length (dA p)).1 (r.s.h.a+1) 0 p.a).1 (r.s.h.a+1)).1,b:=(cK (cw r.s p.a.length (dA p)).1 (r.s.h.a+1) 0 p.a).2 }
 else ⟨(cK (cw r.s p.a.length (dA p)).1 (r.s.h.a+1) 0 p.a).1,r.a++[r.s.h.a+1],r.c++mW (r.s.h.a+1) p.b,0⟩
def fP (r:jF):List bT->jF
 | []=>r
 | p::t=>if p.b.size=0 then fP r t else if (eZ r p).b≠0 then eZ r p else fP (eZ r p) t
def px (r:jF):av×mX:=if r.b=0 then (eG r.s,(201,[],r.c)) else (eG (mV r.s r.a),(nS r.b,[],[]))
theorem K6 {s:av}{c a:Int}{b:ab}(h:(cK s c a b).2≠0):(cK s c a b).1=s:=pL h
theorem K7 {s:av}{z:Int}{m:ae}(h:(cw s z m).2≠0):(cw s z m).1=s:=pL h
theorem Ac:∀(ps:List bT) (r:jF),r.b=0->ml r.s r.a r.c ps=px (fP r ps)
 | [],r,h=>by unfold ml fP px;rw[if_pos h]
 | p :: t, r, h => by
   unfold ml fP;by_cases h0:p.b.size=0
   . rw[if_pos h0,if_pos h0];exact Ac t r h
   . rw[if_neg h0,if_neg h0];by_cases h1:(cw r.s p.a.length (dA p)).2=0
     . by_cases h2:(cK (cw r.s p.a.length (dA p)).1 (r.s.h.a+1) 0 p.a).2=0
       . have ha:eZ r p=⟨(cK (cw r.s p.a.length (dA p)).1 (r.s.h.a+1) 0 p.a).1,r.a++[r.s.h.a+1],r.c++mW (r.s.h.a+1) p.b,0⟩:=by
          unfold eZ;rw[if_neg (by rw[h1];simp),if_neg (by rw[h2];simp)]
         rw[if_neg (by show ¬(cw r.s p.a.length (dA p)).2≠0;rw[h1];simp),if_neg (by show ¬(cK (cw r.s p.a.length (dA p)).1 (r.s.h.a+1) 0 p.a).2≠0;rw[h2];simp),ha,if_neg (by simp)];exact Ac t ⟨(cK (cw r.s p.a.length (dA p)).1 (r.s.h.a+1) 0 p.a).1,r.a++[r.s.h.a+1],r.c++mW (r.s.h.a+1) p.b,0⟩ rfl
       . have ha:eZ r p={ r with s:=(gc (cK (cw r.s p.a.length (dA p)).1 (r.s.h.a+1) 0 p.a).1 (r.s.h.a+1)).1,b:=(cK (cw r.s p.a.length (dA p)).1 (r.s.h.a+1) 0 p.a).2 }:=by
          unfold eZ;rw[if_neg (by rw[h1];simp),if_pos h2]
         rw[if_neg (by show ¬(cw r.s p.a.length (dA p)).2≠0;rw[h1];simp),if_pos (show(cK (cw r.s p.a.length (dA p)).1 (r.s.h.a+1) 0 p.a).2≠0 from h2),ha,if_pos h2];unfold px;rw[if_neg h2,K6 h2]
     . have ha:eZ r p={ r with b:=(cw r.s p.a.length (dA p)).2 }:=by unfold eZ;rw[if_pos h1]
       rw[if_pos (show(cw r.s p.a.length (dA p)).2≠0 from h1),ha,if_pos h1];unfold px;rw[if_neg h1]
theorem zQ {r:jF}(h:aK r.s)(p:bT):aK (eZ r p).s:=by
 unfold eZ;split
 . exact h
 . split
   . exact((h.f _ _).a _ _ _).r _
   . exact(h.f _ _).a _ _ _
theorem zR:∀(a:List bT) {r:jF},aK r.s->aK (fP r a).s
 | [],_,h=>h
 | p :: t, r, h => by
   unfold fP;split
   . exact zR t h
   . split
     . exact zQ h p
     . exact zR t (zQ h p)
structure uk (r:jF):Prop where
 b:aK r.s
 a:r.c.length<=120*r.a.length
 c:r.a.length<=r.s.h.l.length∨r.b≠0
theorem Ld {r:jF}(h:uk r)(d:r.b=0)(p:bT):uk (eZ r p):=by
 refine⟨zQ h.b p,?_,?_⟩
 . unfold eZ;split
   . exact h.a
   . rename_i a;split
     . exact h.a
     . have b:(cw r.s p.a.length (dA p)).2=0:=sJ a;have e:(dA p).size=9+p.b.size:=by
        show(rS++p.b.data.toList).toArray.size=_;rw[cx,aD,cI];rfl
       have c:=(zN b).2;have f:=D4 (r.s.h.a+1) p.b;have g:=h.a;simp only[aD,bF,iy];omega
 . unfold eZ;split
   . rename_i a;exact Or.inr a
   . rename_i a;split
     . rename_i c;exact Or.inr c
     . have b:(cw r.s p.a.length (dA p)).2=0:=sJ a;refine Or.inl ?_;show(r.a++[r.s.h.a+1]).length<=(cK _ _ _ _).1.h.l.length;rw[D7,(zN b).1,aD];rcases h.c with h | h
       . simp;omega
       . exact absurd d h
def ik (o:List bT):Nat:=(o.map fun p=>p.a.length).sum
theorem zK (a b:List bT):ik (a++b)=ik a+ik b:=by unfold ik;rw[lM,List.sum_append]
theorem LC:∀{o:List bT} {q:bT},q∈o->q.a.length<=ik o:=by intro l;induction l <;> grind [ik]
theorem Lw (o:List bT)(e:aA)(h:e.c=[]):ik (fO o e)<=ik o+e.a.length:=by
 unfold fO;split
 . rw[zK];show _+(e.c.length+0)<=_;rw[h];show ik o+0<=_;omega
 . split
   . rcases mz o with rfl | ⟨q,p,rfl⟩
     . exact ax _
     . rw[lb,List.dropLast_concat,sK,zK,zK];show ik q+(e.a.length+0)<=ik q+ik [p]+e.a.length;omega
   . omega
theorem Le (o:List bT)(e:aA)(h:e.f.size<=200)(b:∀q∈o,q.b.size<=200):∀q∈fO o e,q.b.size<=200:=by
 unfold fO;split
 . intro q a;rcases eJ.1 a with a | a
   . exact b q a
   . rw[cW.1 a];exact h
 . split
   . rcases mz o with rfl | ⟨r,p,rfl⟩
     . intro q a;cases a
     . rw[lb] at b ⊢;rw[List.dropLast_concat,sK];intro q a;rcases eJ.1 a with a | a
       . exact b q (vm _ a)
       . have:q={ p with a:=e.a }:=cW.1 a;rw[this];exact b p (List.mem_append_right _ (by simp))
   . exact b
theorem Lx (es:List aA)(h:∀e∈es,nQ e):ik (fG es)<=dw es∧∀q∈fG es,q.b.size<=200:=by
 have a:∀(m:List aA) (o:List bT),(∀e∈m,nQ e)->(∀q∈o,q.b.size<=200)->ik (m.foldl fO o)<=ik o+dw m∧∀q∈m.foldl fO o,q.b.size<=200:=by
  intro m;induction m with
  | nil=>intro o _ b;exact⟨am _,b⟩
  | cons e t g =>
    intro o c b;have d:=c e (by simp);have i:=Lw o e d.a;have f:=g (fO o e) (fun x j=>c x (by simp[j])) (Le o e d.b b);refine⟨?_,f.2⟩;show ik (t.foldl fO (fO o e))<=ik o+(e.a.length+dw t);have:=f.1;omega
 have:=a es [] h (fun q k=>by cases k);refine⟨?_,this.2⟩;have i:ik (fG es)<=0+dw es:=this.1;omega
theorem Ly:∀o:List bT,gP o=ik o+200*o.length:=by intro l;induction l <;> grind [gP,ik]
theorem K5 {b body:ab}{a:List bT}(h:lw b body=M a)(c:3<=(fm b).length)(d:ie (fm b) ii)(g:ii.c<=1000)(i:body.length<=20000):gP a<=1000000000∧a.length<=1000000∧∀q∈a,q.a.length<=1000000∧q.b.size<=900000:=by
 unfold lw at h;split at h
 . injection h with h;subst h;have j:=wK c body d;have k:=BE (cn (fm b) ii body);have l:=Eh (cn (fm b) ii body);have f:=Lx _ (KL (DX c body d));have m:=Ds (gr (cn (fm b) ii body));have n:=Ly (fG (gr (cn (fm b) ii body)));refine⟨by omega,by omega,fun q e=>⟨?_,by have:=f.2 q e;omega⟩⟩;have:=LC e;omega
 . cases h
theorem Ll (r:jF)(p:bT):(eZ r p).a.length<=r.a.length+1:=by grind [eZ]
theorem zP:∀(a:List bT) (r:jF),(fP r a).a.length<=r.a.length+a.length
 | [],_=>am _
 | p :: t, r => by
   unfold fP;rw[bF];split
   . have:=zP t r;omega
   . have b:=Ll r p;split
     . omega
     . have:=zP t (eZ r p);omega
section
variable {s:av} {l:aC} {body b:ab} {ps:List bT}
theorem Lf (h:mj l=U):jh s l body=(s,(415,[],[])):=by unfold jh;rw[h]
theorem Lm (h:mj l=M b)(a:lw b body=U):jh s l body=(s,(400,[],[])):=by grind [mj,lw,jh]
theorem Lg (h:mj l=M b)(a:lw b body=M ps)(c:100000<s.a.length+gP ps):jh s l body=(s,(507,[],[])):=by grind [mj,lw,gP,jh]
theorem Lh (h:mj l=M b)(a:lw b body=M ps)(c:¬100000<s.a.length+gP ps):jh s l body=px (fP ⟨s,[],[],0⟩ ps):=by
 unfold jh;rw[h];show(match lw b body with | none=>_ | some ps=>_)=_;rw[a];show(if 100000<s.a.length+gP ps then _ else _)=_;rw[if_neg c];exact Ac ps ⟨s,[],[],0⟩ rfl
end
theorem N0 {s:av}{b:Int}(h:(fr s b).2=0):∃i u,cE s.h.l b=M i∧s.h.l[i]? = M u∧u.c=b∧u.e=0∧u.a=u.b.length∧(fr s b).1.h=⟨s.h.l.set i { u with e:=1 },s.h.a⟩:=by
 unfold fr at h ⊢;obtain⟨a,j⟩:=P0 h;rw[j];cases c:cE s.h.l b with
 | none=>unfold kj at a;rw[qG c] at a;cases a
 | some i =>
   obtain⟨u,d,e⟩:=xD _ _ _ c;have k:=mu c;have m:s.h.l[i]=u:=by rw[iA k] at d;injection d
   unfold kj at a ⊢;rw[qH c,m] at a ⊢;by_cases f:u.e≠0
   . rw[if_pos f] at a;cases a
   rw[if_neg f] at a ⊢;by_cases g:u.a≠u.b.length
   . rw[if_pos g] at a;cases a
   rw[if_neg g];exact⟨i,u,rfl,d,e,by omega,by omega,rfl⟩
theorem FB:∀(l:List aN) (a:Int) (i:Nat) (u v:aN),l[i]? = M u->v.c=u.c->cE (l.set i v) a=cE l a
 | [],_,_,_,_,h,_=>by simp at h
 | x :: t, a, 0, u, v, h, e => by
   have h:x=u:=by simpa using h
   subst h;rw[oX,cE,cE,e]
 | x :: t, a, i + 1, u, v, h, e => by
   rw[List.set_cons_succ,cE,cE,FB t a i u v (by simpa using h) e]
theorem N7 {s:av}{a:Int}{i:Nat}{u:aN}(b:cE s.h.l a=M i)(e:s.h.l[i]? = M u)(f:(fr s a).1.h=⟨s.h.l.set i { u with e:=1 },s.h.a⟩):cE (fr s a).1.h.l a=M i∧(fr s a).1.h.l[i]? = M { u with e:=1 }∧sc (fr s a).1.h a=nV u:=by
 have c:cE (s.h.l.set i { u with e:=1 }) a=M i:=(FB _ a i u { u with e:=1 } e rfl).trans b;have d:(s.h.l.set i { u with e:=1 })[i]? = M { u with e:=1 }:=by rw[List.getElem?_set_self (mu b)]
 rw[f];refine⟨c,d,?_⟩;unfold sc FF;simp only[c,d];rfl
open Go.RowKit
theorem N8 (h:df)(a:ab):(jp h a).1.length<=8000:=by
 by_cases b:(jp h a).2=0
 . exact(OU h a b).2
 . revert b;unfold jp;repeat' split
   all_goals first | (intro _;exact ax _) | (intro b;exact absurd rfl b)
theorem N2 (s:aB)(a:Int):(sc s a).length<=8000:=by
 unfold sc;split
 . exact ax _
 . exact N8 _ _
theorem FG {s:av}{r:aB×Nat}{e:aI}(h:r.2<=100):(bH s r e).2<=100:=by
 unfold bH;repeat' split
 all_goals first | exact h | exact Nat.le_of_ble_eq_true rfl
theorem FC (s:aB)(a:Int)(f:Nat->aN->aB×Nat)(b:∀i u,(f i u).2<=100):(cO s a f).2<=100:=by
 unfold cO;repeat' split
 all_goals first | exact b _ _ | exact Nat.le_of_ble_eq_true rfl
theorem N3 (p:cu)(x:kN):(gR p x).2.a<=100:=by
 have a:(fr p.s x.n).2<=100:=FG (FC _ _ _ fun i u=>by
  repeat' split
  all_goals exact Nat.le_of_ble_eq_true rfl)
 have b:(kY p.s x.n).2<=100:=FG (FC _ _ _ fun i u=>by split <;> exact Nat.le_of_ble_eq_true rfl);unfold gR kO lz oO oN uH;repeat' split
 all_goals first | exact a | exact b | (split <;> exact Nat.le_of_ble_eq_true rfl) | exact Nat.le_of_ble_eq_true rfl
theorem Fz (p:cu)(x:kN):(gR p x).2.c.length<=8000:=by
 unfold gR kO lz oO oN uH;repeat' split
 all_goals first | exact N2 _ _ | exact ax _
theorem Fy {p:cu}(ok:aK p.s)(x:kN):(gR p x).2.b.length<=12000*x.b.length:=by
 unfold gR kO lz oO oN uH;repeat' split
 all_goals first
  | exact ax _
  | (show(ez br (nR p.s (p.c x.a.toNat)) (cV (p.c x.a.toNat).c x.b)).a.length <= _
     have a:=Ab (cV (p.c x.a.toNat).c x.b) (g:=nR p.s (p.c x.a.toNat)) ok
     have d:=(xv x.b (p.c x.a.toNat).c).1
     have e:(nR p.s (p.c x.a.toNat)).a.length=0:=rfl
     omega)
theorem N9 (p:cu)(x:kN):(gR p x).1.a.length<=p.a.length+1:=by
 unfold gR kO lz oO oN uH;repeat' split
 all_goals simp
def pp (ls:List (ab)):Nat:=(ls.map (·.length)).sum
theorem CI (a:List (ab))(i:Nat)(h:i<a.length):pp (a.take i)+a[i].length=pp (a.take (i+1)):=by
 unfold pp;rw[fR h,lM,List.sum_append];simp
theorem I6 (a:List (ab))(i:Nat):pp (a.take i)<=pp a:=by
 conv=>rhs;rw[<-iZ i a]
 unfold pp;rw[lM,List.sum_append];omega
theorem zb (p:cu)(a:List (ab))(i:Nat)(h:i<a.length):dY p (a.take (i+1))=((jA (dY p (a.take i)).1 a[i]).1,(dY p (a.take i)).2++(jA (dY p (a.take i)).1 a[i]).2):=by
 rw[fR h,Cw];simp[dY]
theorem I2 {p:cu}{n:Nat}(h:jI p n)(l:ab):jI (jA p l).1 (n+l.length):=by
 unfold jA;repeat' split
 all_goals first
  | exact h.e (dT _ _)
  | (rename_i x a;exact(h.j x).e (Nat.add_le_add_left (zg a) _))
theorem I3 (p:cu)(l:ab):(jA p l).1.a.length<=p.a.length+1:=by
 unfold jA;repeat' split
 all_goals first
  | exact Nat.le_succ _
  | exact N9 _ _
theorem CK {p:cu}{n:Nat}(h:jI p n)(a:List (ab)):∀i,i<=a.length->jI (dY p (a.take i)).1 (n+pp (a.take i))
 | 0,_=>h
 | i + 1, b => by
   rw[zb p a i (by omega),<-CI a i (by omega),<-gE];exact I2 (CK h a i (by omega)) _
theorem CL (p:cu)(a:List (ab)):∀i,i<=a.length->(dY p (a.take i)).1.a.length<=p.a.length+i
 | 0,_=>am _
 | i + 1, b => by
   rw[zb p a i (by omega)];have:=I3 (dY p (a.take i)).1 a[i];have:=CL p a i (by omega);show(jA (dY p (a.take i)).1 a[i]).1.a.length<=_;omega
def mM:List ae:=[⟨#[98,121,116,101,115,32,48,32,71,69,84,32,47,32,72,84,84,80,47,49,46,49,92,114,92,110,72,111,115,116,58,32,97,92,114,92,110,92,114,92,110]⟩,⟨#[108,105,115,116]⟩,⟨#[108,111,103]⟩,⟨#[115,101,110,100,32,49]⟩,⟨#[100,114,111,112,32,52]⟩,⟨#[120]⟩]
def CT:ab:=[111,117,116,32,72,84,84,80,47,49,46,49,32,52,48,52,32,78,111,116,32,70,111,117,110,100,92,114,92,110,67,111,110,116,101,110,116,45,76,101,110,103,116,104,58,32,48,92,114,92,110,92,114,92,110,10,101,110,100,10,108,111,103,32,48,32,48,10,110,111,32,49,48,10,110,111,32,49,10,119,104,97,116,10]
theorem I7:(dY mZ (mM.map (·.data.toList))).2=CT:=by decide +kernel
theorem I8:nL (mM.map (·.data.toList))=U:=by decide +kernel
