import Derived.Test.YtodmelffkfbalaaGreatDoorAl
import Derived.Lib.SlTrimSet
import Derived.Lib.IndexLaws
import Derived.Below
open Option renaming none->U,some->M
open Bool renaming false->F
namespace Go.Proofs.YtodmelffkfbalaaGreatDoor
def nG (c:Int):Bool:=decide (48<=c)&&decide (c<=57)
def oy (c:Int):Bool:=decide (65<=c)&&decide (c<=90)
def rF (c:Int):Bool:=(decide (97<=c)&&decide (c<=122))||oy c
def er (c:Int):Bool:=c==9||(decide (32<=c)&&c != 127)
def Cb:ab:=[33,35,36,37,38,39,42,43,45,46,94,95,96,124,126]
def lt (c:Int):Bool:=nG c||rF c||decide (0<=Lib.indexByte Cb c.toNat.toUInt8)
def aT (c:Int):Int:=if nG c then c-48 else if decide (97<=c)&&decide (c<=102) then c-87 else if decide (65<=c)&&decide (c<=70) then c-55 else -1
theorem Ir {p:Int->Bool}(h:(List.range 256).all (fun n=>p (n:Int))=true)(c:Int)(a:0<=c)(b:c<=255):p c=true:=by
 obtain⟨n,rfl⟩:=Int.eq_ofNat_of_zero_le a;exact sE.1 h n (List.mem_range.2 (by omega))
def fj (l:ab):Bool:=!l.isEmpty&&l.all fun b=>lt b.toNat
def yO (l:ab):Bool:=l.all fun b=>lt b.toNat
def dO (l:ab):Bool:=l.all fun b=>er b.toNat
theorem Ip (c:Int)(a:0<=c)(b:c<=255):-1<=aT c∧aT c<=15:=by
 have:=Ir (p:=fun c=>decide (-1<=aT c∧aT c<=15)) (by decide +kernel) c a b;simpa using this
theorem wa (s:ae)(k:Nat)(h:k<s.size):s.data.toList.take (k+1)=s.data.toList.take k++[s[k]]:=by
 rw[fR (by simpa using h)];rfl
theorem wg (s:ae)(k:Nat)(h:s.size<=k):s.data.toList.take k=s.data.toList :=
 gF (by simpa using h)
theorem yW (p:UInt8->Bool)(s:ae)(k:Nat)(h:k<s.size)(b:p s[k]=F):s.data.toList.all p=F:=by
 rw[Bool.eq_false_iff,Ne,sE];intro a;have:=a s[k] (by
  have:s[k]=s.data.toList[k]'(by simpa using h):=rfl;rw[this];exact fb _)
 rw[this] at b;cases b
def gw (base:Int)(b:UInt8):Bool:=decide (0<=aT b.toNat)&&decide (aT b.toNat<base)
def lm (base:Int)(l:ab):Int:=l.foldl (fun n b=>n*base+aT b.toNat) 0
def bB (base most:Int)(l:ab):Int×Bool :=
 if l=[]∨most<l.length then (0,F) else if l.all (gw base) then (lm base l,true) else (0,F)
theorem Io (a:Int)(l:ab)(b:UInt8):lm a (l++[b])=lm a l*a+aT b.toNat:=by
 simp[lm]
theorem qi (b:UInt8):-1<=aT b.toNat∧aT b.toNat<=15:=Ip _ (by omega) (by have:=b.toNat_lt;omega)
theorem B8 (a:Int)(c:0<=a)(d:a<=16):∀(l:ab) (n:Int) (B:Nat),0<=n->n<16 ^ B->l.all (gw a)=true ->
 0<=l.foldl (fun n b=>n*a+aT b.toNat) n∧l.foldl (fun n b=>n*a+aT b.toNat) n<16 ^ (B+l.length)
 | [],n,B,f,g,_=>⟨f,g⟩
 | b :: l, n, B, f, g, hl => by
   rw[qX,gZ] at hl;have i:=qi b;have j:0<=aT b.toNat:=by
    have:=hl.1;unfold gw at this;rw[gZ] at this;exact sB this.1
   have k:=Int.mul_nonneg f c;have m:=Int.mul_le_mul_of_nonneg_left d f;have e:(16:Int) ^ (B+1)=16 ^ B*16:=Int.pow_succ ..;have:=B8 a c d l (n*a+aT b.toNat) (B+1) (by omega) (by omega) hl.2;rw[qY,bG,show B+(l.length+1)=B+1+l.length by omega];exact this
theorem we (a:Int)(b:0<=a)(c:a<=16)(l:ab)(d:l.all (gw a)=true)(f:l.length<=9):0<=lm a l∧lm a l<68719476736:=by
 have h:=B8 a b c l 0 0 (pH _) (by decide) d;have:(16:Int) ^ (0+l.length)<=16 ^ 9:=by
  have:(16:Nat) ^ (0+l.length)<=16 ^ 9:=Nat.pow_le_pow_right (by decide) (by omega);exact_mod_cast this
 have e:(16:Int) ^ 9=68719476736:=by decide
 exact⟨h.1,by have:=h.2;unfold lm;omega⟩
theorem yP (p:UInt8->Bool)(l:ab)(b:UInt8):(l++[b]).all p=(l.all p&&p b):=by simp
theorem yV (b a:Int)(l:ab)(h:l=[]∨a<l.length):bB b a l=(0,F):=by unfold bB;rw[if_pos h]
theorem yN (a b:Int)(l:ab)(h:l.all (gw a)=F):bB a b l=(0,F):=by
 unfold bB;split
 . rfl
 . rw[h];rfl
theorem yZ (a b:Int)(l:ab)(c:l≠[])(d:¬b<l.length)(h:l.all (gw a)=true):bB a b l=(lm a l,true):=by
 unfold bB;rw[if_neg (by simp[c,d]),h];rfl
theorem cH (s:ae):s.data.toList.length=s.size:=by simp
theorem yS (s:ae)(h:0<s.size):s.data.toList≠[]:=by
 intro e;have:=cH s;rw[e] at this;simp at this;omega
theorem qe (s:ae)(h:s.size=0):s=⟨#[]⟩:=by
 apply ByteArray.ext;exact Array.eq_empty_of_size_eq_zero h
theorem qh (s:ae)(h:0<s.size):s.toList.isEmpty=F:=by
 rw[Lib.toList_data];cases a:s.data.toList with
 | nil=>exact absurd a (yS s h)
 | cons _ _=>rfl
def yR (b:UInt8)(j:Nat):UInt8:=if 65<=b.toNat∧b.toNat<65+j then b+32 else b
def lZ (b:UInt8):UInt8:=yR b 26
def be (l:ab):ab:=l.map lZ
theorem tN (l:ab):(be l).length=l.length:=by simp[be]
theorem ma (a b:ae):(a++b).data.toList=a.data.toList++b.data.toList:=by simp
theorem yU {x:ae}{l:ab}(h:x.data.toList=l):x=⟨l.toArray⟩:=by
 obtain⟨⟨m⟩⟩:=x;simp only at h;rw[h]
theorem tQ {x:ae}{l:ab}(h:x.data.toList=l):x.size=l.length:=by rw[<-h,cH]
def nF:ab:=[48,49,50,51,52,53,54,55,56,57,97,98,99,100,101,102]
theorem vZ (b:UInt8):gw 16 b=decide (0<=aT b.toNat):=by
 have:=qi b;unfold gw;rw[br (show aT b.toNat<16 by omega)];simp
def bx:Nat->Nat->ab
 | 0,n=>[(48+n).toUInt8]
 | f+1,n=>if n<10 then [(48+n).toUInt8] else bx f (n / 10)++[(48+n % 10).toUInt8]
theorem gx:∀f n,(bx f n).length<=f+1∧1<=(bx f n).length:=by intro l;induction l <;> grind [bx]
theorem B9 (j:Nat)(h:j<16):gw 16 (nF.getD j 0)=true∧aT (nF.getD j 0).toNat=j :=
 (show ∀j:Fin 16,gw 16 (nF.getD j.val 0)=true∧aT (nF.getD j.val 0).toNat=j.val by decide +kernel) ⟨j,h⟩
theorem Is (b:UInt8)(h:oy b.toNat=F):lZ b=b:=by
 unfold lZ yR;rw[if_neg];intro a;unfold oy at h;rw[br (by omega),br (by omega)] at h;cases h
theorem Iq (b:UInt8)(h:oy b.toNat=true):((lZ b).toNat:Int)=b.toNat-65+97:=by
 unfold oy at h;rw[gZ,bR,bR] at h;unfold lZ yR;rw[if_pos (by omega),UInt8.toNat_add];have:(32:UInt8).toNat=32:=rfl;rw[this];omega
def cf:ab:=[32,9]
def fp (b:UInt8):ab:=if b=13 then [92,114] else if b=10 then [92,110] else if b=92 then [92,92] else if b.toNat<32∨126<b.toNat then [92,120,nF.getD (b.toNat / 16) 0,nF.getD (b.toNat % 16) 0] else [b]
def dP (l:ab):ab:=l.flatMap fp
def fL (l:ab):UInt8×Nat :=
 match l with
 | []=>(0,0)
 | c :: r => if c = 92 then
     match r with
     | []=>(0,0)
     | d :: q => if d = 114 then (13, 2) else if d = 110 then (10, 2) else if d = 92 then (92, 2) else if d = 120 then
         match q with
         | x::y::_=>if 0<=aT x.toNat∧0<=aT y.toNat then ((aT x.toNat*16+aT y.toNat).toNat.toUInt8,4) else (0,0)
         | _=>(0,0)
      else (0,0)
  else (c,1)
def pc:Nat->ab->Option (ab)
 | _,[]=>M []
 | 0,_::_=>U
 | f+1,l@(_::_)=>if (fL l).2=0 then U else (pc f (l.drop (fL l).2)).map ((fL l).1::·)
def je (l:ab):Option (ab):=pc l.length l
theorem Cq:∀(f g:Nat) (l:ab),l.length<=f->l.length<=g->pc f l=pc g l
 | _,_,[],_,_=>by simp[pc]
 | 0,_,_::_,h,_=>by simp at h
 | _+1,0,_::_,_,h=>by simp at h
 | f + 1, g + 1, c :: r, h, h' => by
   unfold pc;split
   . rfl
   . rw[Cq f g _ (by simp at h ⊢;omega) (by simp at h' ⊢;omega)]
theorem IB:je []=M []:=rfl
theorem Cs {l:ab}(h:l≠[])(a:(fL l).2=0):je l=U:=by
 cases l with
 | nil=>exact absurd rfl h
 | cons c r=>unfold je;simp only[bG];unfold pc;rw[if_pos a]
theorem zb {l:ab}(h:l≠[])(a:(fL l).2≠0):je l=(je (l.drop (fL l).2)).map ((fL l).1::·):=by
 cases l with
 | nil=>exact absurd rfl h
 | cons c r =>
   unfold je;simp only[bG];rw[pc];rw[if_neg a,Cq r.length (List.drop (fL (c::r)).2 (c::r)).length _ (by simp;omega) (ak _)]
theorem CC (l:ab):(fL l).2<=l.length:=by
 unfold fL;repeat' split
 all_goals simp
theorem IC (b:UInt8)(r:ab):fL (fp b++r)=(b,(fp b).length):=by
 have h:∀n:Fin 256,∀b:UInt8,b=n.val.toUInt8->fp b=[b]∧b≠92∨(fp b=[92,114]∧b=13∨fp b=[92,110]∧b=10∨fp b=[92,92]∧b=92)∨∃x y,fp b=[92,120,x,y]∧0<=aT x.toNat∧0<=aT y.toNat∧(aT x.toNat*16+aT y.toNat).toNat.toUInt8=b:=by
  intro n b i;unfold fp;by_cases d:b=13
  . subst d;simp
  . by_cases a:b=10
    . subst a;simp
    . by_cases c:b=92
      . subst c;simp
      . rw[if_neg d,if_neg a,if_neg c];split
        . refine Or.inr (Or.inr ⟨_,_,rfl,?_⟩);have e:=b.toNat_lt;obtain⟨-,f⟩:=B9 (b.toNat / 16) (by omega);obtain⟨-,g⟩:=B9 (b.toNat % 16) (by omega);rw[f,g];refine⟨by omega,by omega,?_⟩;have:((b.toNat / 16:Nat):Int)*16+((b.toNat % 16:Nat):Int)=(b.toNat:Int):=by omega
          rw[this];simp
        . exact Or.inl ⟨rfl,c⟩
 rcases h ⟨b.toNat,b.toNat_lt⟩ b (by simp) with ⟨h,a⟩ | (⟨h,a⟩ | ⟨h,a⟩ | ⟨h,a⟩) | ⟨x,y,h,d,a,c⟩
 . rw[h];simp[fL,a]
 . rw[h,a];rfl
 . rw[h,a];rfl
 . rw[h,a];rfl
 . rw[h];show fL (92::120::x::y::r)=_;simp only[fL];simp[d,a,c]
theorem CD (b:UInt8):fp b≠[]∧(fp b).length≠0:=by
 unfold fp;repeat' split
 all_goals simp
theorem ID:∀l:ab,je (dP l)=M l
 | []=>rfl
 | b :: r => by
   have e:dP (b::r)=fp b++dP r:=by simp[dP]
   have c:=IC b (dP r);have a:fp b++dP r≠[]:=by have:=(CD b).1;simp[this]
   rw[e,zb a (by rw[c];exact(CD b).2),c];simp only[List.drop_left];rw[ID r];rfl
theorem IF (b:UInt8):(fp b).length<=4:=by
 unfold fp;repeat' split
 all_goals simp
theorem pd:∀l:ab,(dP l).length<=4*l.length
 | []=>ak _
 | b :: r => by
   have e:dP (b::r)=fp b++dP r:=by simp[dP]
   have:=IF b;have:=pd r
   rw[e,aD,bG];omega
theorem IG (l:ab)(b:UInt8):dP (l++[b])=dP l++fp b:=by simp[dP]
theorem Ct:∀(n:Nat) (l:ab),l.length<=n->∀b,je l=M b->b.length<=l.length
 | _,[],_,b,h=>by cases h;exact ak _
 | 0,_::_,h,_,_=>by simp at h
 | n + 1, c :: r, hn, b, h => by
   by_cases d:(fL (c::r)).2=0
   . rw[Cs (by simp) d] at h;cases h
   . rw[zb (by simp) d] at h;have e:=CC (c::r);cases a:je ((c::r).drop (fL (c::r)).2) with
     | none=>rw[a] at h;cases h
     | some x =>
       rw[a] at h;have:=Ct n _ (by rw[cO];simp at hn ⊢;omega) x a;rw[cO] at this;cases h;simp only[bG] at *;omega
theorem tP {l:ab}(h:(bB 10 9 l).2=true):0<=(bB 10 9 l).1∧(bB 10 9 l).1<1000000000:=by
 have a:¬(l=[]∨(9:Int)<l.length):=fun e=>by unfold bB at h;rw[if_pos e] at h;cases h
 have ha:l.all (gw 10)=true:=by
  cases e:l.all (gw 10) with
  | true=>rfl
  | false=>unfold bB at h;rw[if_neg a,e] at h;cases h
 unfold bB;rw[if_neg a,if_pos ha];have c:∀(l:ab) (n:Int) (B:Nat),0<=n->n<10 ^ B->l.all (gw 10)=true->0<=l.foldl (fun n b=>n*10+aT b.toNat) n∧l.foldl (fun n b=>n*10+aT b.toNat) n<10 ^ (B+l.length):=by
  intro l;induction l with
  | nil=>intro n B f g _;exact⟨f,g⟩
  | cons b t j =>
    intro n B f g d;rw[qX,gZ] at d;have i:=d.1;unfold gw at i;rw[gZ,bR,bR] at i;have e:(10:Int) ^ (B+1)=10 ^ B*10:=Int.pow_succ ..;have:=j (n*10+aT b.toNat) (B+1) (by omega) (by omega) d.2;simp only[qY,bG];rw[show B+(t.length+1)=B+1+t.length by omega];exact this
 have:=c l 0 0 (by omega) (by decide) ha;refine⟨this.1,Int.lt_of_lt_of_le this.2 ?_⟩;rw[ee];have k:l.length<=9:=by
  rcases eN 9 l.length with e | e
  . exact absurd (Or.inr (by omega)) a
  . exact e
 calc (10:Int) ^ l.length<=10 ^ 9:=by exact_mod_cast Nat.pow_le_pow_right (by decide) k
  _=1000000000:=by decide
structure xi where
 b:ab
 a:Nat
 d:Bool
 c:Nat
def EV:xi:=⟨[],0,F,0⟩
def xj (i c:Nat):xi:=⟨[],i,F,c⟩
def EU (l:ab):Nat->ab->xi
 | _,[]=>EV
 | i, c :: t =>
   if c=13 then
    match t with
    | []=>EV
    | d::_=>if d=10 then ⟨l.take i,i+2,true,0⟩ else xj (i+2) 2
   else if c=10 then xj (i+1) 2
   else if er c.toNat=F then xj (i+1) 3
   else if i=200 then xj (i+1) 4
   else EU l (i+1) t
def cl (l:ab):xi:=EU l 0 l
structure cx where
 b:ab
 c:Bool
 a:Nat
def dw:cx:=⟨[],F,0⟩
def ft (s:cx)(c:UInt8):Nat :=
 if s.c=(c==10) then (if c=13∨c=10 then 0 else if er c.toNat=F then 3 else if 200<=s.b.length then 4 else 0) else 2
def bi (s:cx)(c:UInt8):cx :=
 if s.a≠0 then s
 else if ft s c≠0 then { s with a:=ft s c }
 else if c=10 then ⟨[],F,0⟩
 else if c=13 then { s with c:=true }
 else { s with b:=s.b++[c] }
def cV (s:cx)(c:UInt8):ab:=if s.a=0∧ft s c=0∧c=10 then s.b else []
def fH (s:cx)(c:UInt8):Bool:=decide (s.a=0∧ft s c=0∧c=10)
structure qu (s:cx):Prop where
 d:∀b∈s.b,er b.toNat=true
 c:s.b.length<=200
theorem qu.a:qu dw:=⟨fun b h=>by simp[dw] at h,by simp[dw]⟩
theorem xk {s:cx}{c:UInt8}(h:qu s):qu (bi s c):=by
 unfold bi;split
 . exact h
 . split
   . exact⟨h.d,h.c⟩
   . split
     . exact qu.a
     . split
       . exact⟨h.d,h.c⟩
       . rename_i _ a f k;have a:ft s c=0:=by omega
         unfold ft at a;split at a
         . split at a
           . rename_i g;rcases g with e | e <;> contradiction
           . split at a
             . omega
             . split at a
               . omega
               . rename_i _ _ i l;refine⟨fun b d=>?_,by simp;omega⟩;simp at d;rcases d with d | rfl
                 . exact h.d b d
                 . cases j:er (b.toNat:Int)
                   . exact absurd j i
                   . rfl
         . omega
theorem ES {s:cx}{c:UInt8}(h:(bi s c).a≠0):fH s c=F:=by grind [bi,fH]
theorem Mf {s:cx}(c:UInt8)(h:s.a≠0):bi s c=s∧cV s c=[]∧fH s c=F:=by grind [bi,cV,fH]
def aV (c:UInt8)(l:ab):Nat:=l.findIdx (·==c)
theorem Jj (c:UInt8)(l:ab):aV c l<=l.length:=List.findIdx_le_length
theorem Dc {c:UInt8}{l:ab}(h:aV c l<l.length):l[aV c l]=c:=by grind [aV]
theorem Db {c:UInt8}{l:ab}{j:Nat}(h:j<aV c l)(a:j<l.length):l[j]≠c:=by grind [aV]
theorem Jh {c:UInt8}{l:ab}(h:∀j (a:j<l.length),l[j]≠c):aV c l=l.length:=by grind [aV]
theorem Jk {c:UInt8}{l:ab}{k:Nat}(a:k<l.length)(h:l[k]=c)(b:∀j (d:j<k),l[j]≠c):aV c l=k:=by
 rcases Nat.lt_trichotomy (aV c l) k with g | g | g
 . exact absurd (Dc (Nat.lt_trans g a)) (b _ g)
 . exact g
 . exact absurd h (Db g a)
structure zx where
 b:ab
 c:ab
 a:Nat
def jg (c:Nat):zx:=⟨[],[],c⟩
def aY (l:ab):zx :=
 if aV 58 l=l.length then jg 5
 else if fj (l.take (aV 58 l))=F then jg 6
 else if 40<aV 58 l then jg 4
 else if dO (l.drop (aV 58 l+1))=F then jg 3
 else ⟨l.take (aV 58 l),Lib.trimS (l.drop (aV 58 l+1)) cf,0⟩
def bP (n v:ab):ab×Nat :=
 if fj n=F then ([],6)
 else if 40<n.length∨200<n.length+2+v.length then ([],4)
 else if dO v=F∨Lib.trimS v cf≠v then ([],3)
 else (n++[58,32]++v,0)
structure za where
 a:ab
 d:Nat
 c:Bool
 b:Nat
def fB (t:ab):Int×Bool:=bB 16 6 (Lib.trimS (t.take (aV 59 t)) cf)
def Ce:Nat->ab->Nat->za
 | 0,_,_=>⟨[],0,F,0⟩
 | f + 1, l, n =>
   if (cl l).c≠0∨(cl l).d=F then ⟨[],(cl l).a,F,(cl l).c⟩
   else if (cl l).b=[] then ⟨[],(cl l).a,true,0⟩
   else if n=16 then ⟨[],(cl l).a,F,8⟩
   else if (aY (cl l).b).a≠0 then ⟨[],(cl l).a,F,(aY (cl l).b).a⟩
   else let r:=Ce f (l.drop (cl l).a) (n+1);⟨r.a,(cl l).a+r.d,r.c,r.b⟩
def Cd:Nat->ab->Nat->za
 | 0,_,_=>⟨[],0,F,0⟩
 | f + 1, l, n =>
   if (cl l).c≠0∨(cl l).d=F then ⟨[],(cl l).a,F,(cl l).c⟩
   else if (fB (cl l).b).2=F then ⟨[],(cl l).a,F,7⟩
   else if 4000<n+(fB (cl l).b).1.toNat then ⟨[],(cl l).a,F,4⟩
   else if (fB (cl l).b).1.toNat=0 then
    let r:=Ce (f+1) (l.drop (cl l).a) 0;⟨r.a,(cl l).a+r.d,r.c,r.b⟩
   else
    let k:=(fB (cl l).b).1.toNat
    let d:=l.drop (cl l).a
    if d.length<k then ⟨d,(cl l).a+d.length,F,0⟩
    else
     let e:=d.drop k
     if (cl e).c≠0∨(cl e).d=F then ⟨d.take k,(cl l).a+k+(cl e).a,F,(cl e).c⟩
     else if (cl e).b≠[] then ⟨d.take k,(cl l).a+k+(cl e).a,F,5⟩
     else let r:=Cd f (e.drop (cl e).a) (n+k);⟨d.take k++r.a,(cl l).a+k+(cl e).a+r.d,r.c,r.b⟩
def Iv (l:ab):za:=Cd (l.length+1) l 0
structure dz where
 b:Nat
 d:cx
 c:Nat
 f:Nat
 e:Nat
 a:Nat
def rH:dz:=⟨0,dw,0,0,0,0⟩
def fA (s:dz)(t:ab):dz :=
 if s.b=0 then
  (if (fB t).2 = F then { s with a := 7 }
   else if 4000<s.f+(fB t).1.toNat then { s with a:=4 }
   else if (fB t).1.toNat=0 then { s with b:=3 }
   else { s with b:=1,c:=(fB t).1.toNat,f:=s.f+(fB t).1.toNat })
 else if s.b=2 then (if t≠[] then { s with a:=5 } else { s with b:=0 })
 else if t=[] then { s with b:=4 }
 else if s.e=16 then { s with a:=8 }
 else if (aY t).a≠0 then { s with a:=(aY t).a }
 else { s with e:=s.e+1 }
def de (s:dz)(c:UInt8):dz :=
 if s.a≠0 then s
 else if s.b=4 then { s with a:=18 }
 else if s.b=1 then { s with c:=s.c-1,b:=if s.c<=1 then 2 else 1 }
 else if (bi s.d c).a≠0 then { s with a:=(bi s.d c).a }
 else if fH s.d c=true then fA { s with d:=dw } (cV s.d c)
 else { s with d:=bi s.d c }
def iG (s:dz)(c:UInt8):ab:=if s.a=0∧s.b=1 then [c] else []
structure aL where
 c:Int
 a:Int
 d:ae
 b:ab
 e:Int
structure aA where
 l:List aL
 a:Int
def fa:aA:=⟨[],0⟩
def cF:List aL->Nat
 | []=>0
 | u::t=>u.b.length+cF t
def cE:List aL->Int->Option Nat
 | [],_=>U
 | u::t,id=>if u.c=id then M 0 else (cE t id).map (·+1)
def cQ (s:aA)(id:Int)(f:Nat->aL->aA×Nat):aA×Nat :=
 match cE s.l id with
 | none=>(s,10)
 | some i => match s.l[i]? with
   | none=>(s,10)
   | some u=>f i u
def eZ (s:aA)(size:Int)(m:ae):aA×Int×Nat :=
 if size < -1 then (s,0,1) else if 2000<size∨100<m.size then (s,0,4) else if dO m.data.toList=F∨Lib.trimS m.data.toList cf≠m.data.toList then (s,0,3) else if 12<=s.l.length then (s,0,8)
 else (⟨s.l++[⟨s.a+1,size,m,[],0⟩],s.a+1⟩,s.a+1,0)
def iL (s:aA)(id off:Int)(b:ab):aA×Nat:=cQ s id fun i u =>
 if u.e≠0 then (s,19) else if off≠u.b.length then (s,17) else if 2000<u.b.length+b.length∨(0<=u.a∧u.a<u.b.length+b.length) then (s,4) else if 6000<cF s.l+b.length then (s,16)
 else (⟨s.l.set i { u with b:=u.b++b },s.a⟩,0)
def lC (s:aA)(id size:Int):aA×Nat:=cQ s id fun i u =>
 if 0<=u.a then (s,18) else if size<0 then (s,1) else if 2000<size∨size<u.b.length then (s,4)
 else (⟨s.l.set i { u with a:=size },s.a⟩,0)
def mt (s:aA)(id:Int):aA×Nat:=cQ s id fun i _=>(⟨s.l.eraseIdx i,s.a⟩,0)
def kh (s:aA)(id:Int):aA×Nat:=cQ s id fun i u =>
 if u.e≠0 then (s,19) else if u.a≠u.b.length then (s,14) else (⟨s.l.set i { u with e:=1 },s.a⟩,0)
def lD (s:aA)(id:Int):aA×Nat:=cQ s id fun i u =>
 if u.e≠1 then (s,19) else (⟨s.l.set i { u with e:=2 },s.a⟩,0)
structure GF (last:Int)(u:aL):Prop where
 f:1<=u.c
 e:u.c<=last
 c:-1<=u.a
 d:u.a<=2000
 a:u.b.length<=2000
 i:0<=u.a->u.b.length<=u.a
 g:0<=u.e
 h:u.e<=2
 j:u.e≠0->u.a=u.b.length
 b:u.d.size<=100
structure cN (s:aA):Prop where
 b:s.l.length<=12
 d:cF s.l<=6000
 c:0<=s.a
 e:(s.l.map (·.c)).Pairwise (·<·)
 a:∀u∈s.l,GF s.a u
theorem cN.r:cN fa:=⟨by simp[fa],by simp[fa,cF],by simp[fa],by simp[fa],fun u h=>by simp[fa] at h⟩
theorem Bf:∀a b:List aL,cF (a++b)=cF a+cF b:=by intro l;induction l <;> grind [cF]
theorem GC:∀(l:List aL) (i:Nat) (u v:aL),l[i]? = M u->cF (l.set i v)+u.b.length=cF l+v.b.length
 | [],i,u,v,h=>by simp at h
 | x :: t, 0, u, v, h => by
   have h:x=u:=by simpa using h
   subst h;rw[oP,cF,cF];omega
 | x :: t, i + 1, u, v, h => by
   have:=GC t i u v (by simpa using h);rw[List.set_cons_succ,cF,cF];omega
theorem Gy:∀(l:List aL) (i:Nat),cF (l.eraseIdx i)<=cF l
 | [],i=>by simp[cF]
 | x::t,0=>by rw[List.eraseIdx_cons_zero,cF];omega
 | x::t,i+1=>by have:=Gy t i;rw[List.eraseIdx_cons_succ,cF,cF];omega
theorem xG:∀(l:List aL) (a:Int) (i:Nat),cE l a=M i->∃u,l[i]? = M u∧u.c=a
 | [],a,i,h=>by cases h
 | x :: t, a, i, h => by
   rw[cE] at h;split at h
   . rename_i c;injection h with h;subst h;exact⟨x,rfl,c⟩
   . cases b:cE t a with
     | none=>rw[b] at h;cases h
     | some j =>
       rw[b] at h;injection h with h;obtain⟨u,d,e⟩:=xG t a j b;subst h;exact⟨u,by simpa using d,e⟩
theorem cN.j {s:aA}(h:cN s){i:Nat}{u v:aL}(c:s.l[i]? = M u)(b:v.c=u.c)(d:GF s.a v)(f:cF s.l+v.b.length<=6000+u.b.length):cN ⟨s.l.set i v,s.a⟩:=by
 refine⟨by simpa using h.b,?_,h.c,?_,fun x a=>?_⟩
 . have:=GC s.l i u v c;show cF (s.l.set i v)<=6000;omega
 . have:(s.l.set i v).map (·.c)=s.l.map (·.c):=by
    rw[List.map_set,b];refine List.ext_getElem? fun k=>?_;rw[List.getElem?_set];split
    . rename_i e;subst e;split
      . rw[List.getElem?_map,c];rfl
      . rename_i g;rw[xU (by omega)]
    . rfl
   show((s.l.set i v).map (·.c)).Pairwise (·<·);rw[this];exact h.e
 . rcases List.mem_or_eq_of_mem_set a with a | a
   . exact h.a x a
   . subst a;exact d
theorem cN.f {s:aA}(h:cN s){a:Int}{f:Nat->aL->aA×Nat}(b:∀i u,s.l[i]? = M u->cN (f i u).1):cN (cQ s a f).1:=by grind [cQ]
theorem cN.kU {s:aA}(h:cN s)(size:Int)(m:ae):cN (eZ s size m).1:=by
 unfold eZ;split
 . exact h
 . split
   . exact h
   . split
     . exact h
     . split
       . exact h
       . rename_i f g _ i;have j:=h.c;refine⟨by simp;omega,?_,by show 0<=s.a+1;omega,?_,fun u c=>?_⟩
         . show cF (s.l++[_])<=6000;rw[Bf];have:=h.d;simp[cF];omega
         . show((s.l++[(⟨s.a+1,size,m,[],0⟩:aL)]).map (·.c)).Pairwise (·<·);rw[ku,List.pairwise_append];refine⟨h.e,by simp,fun a ha b d=>?_⟩;obtain⟨u,c,rfl⟩:=my.1 ha;have:=(h.a u c).e;simp at d;subst d;show u.c<s.a+1;omega
         . rcases eC.1 c with c | c
           . have:=h.a u c;exact⟨this.f,by have:=this.e;show u.c<=s.a+1;omega,this.c,this.d,this.a,this.i,this.g,this.h,this.j,this.b⟩
           . rw[cY.1 c];exact⟨by show 1<=s.a+1;omega,pH _,by show -1<=size;omega,by show size<=2000;omega,by simp,fun e=>by simpa using e,by simp,by simp,fun e=>absurd rfl e,by show m.size<=100;omega⟩
theorem cN.y {s:aA}(h:cN s)(f c:Int)(b:ab):cN (iL s f c b).1:=by
 refine h.f fun i u d=>?_;have a:=h.a u (nw d);have j:=h.d;split
 . exact h
 . split
   . exact h
   . split
     . exact h
     . split
       . exact h
       . rename_i g k l m;refine h.j d rfl ⟨a.f,a.e,a.c,a.d,by simp;omega,fun e=>?_,a.g,a.h,fun e=>absurd e (by simpa using g),a.b⟩ (by simp;omega);have n:0<=u.a:=e;simp only[aD];omega
theorem cN.G {s:aA}(h:cN s)(c size:Int):cN (lC s c size).1:=by
 refine h.f fun i u b=>?_;have a:=h.a u (nw b);have d:=h.d;split
 . exact h
 . split
   . exact h
   . split
     . exact h
     . rename_i f g j;refine h.j b rfl ⟨a.f,a.e,by show -1<=size;omega,by show size<=2000;omega,a.a,fun _=>by show(u.b.length:Int)<=size;omega,a.g,a.h,fun e=>?_,a.b⟩ (by show cF s.l+u.b.length<=_;omega);have:=a.j e;omega
theorem cN.H {s:aA}(h:cN s)(a:Int):cN (mt s a).1:=by
 refine h.f fun i u c=>?_;refine⟨cq (List.length_eraseIdx_le ..) h.b,cq (Gy s.l i) h.d,h.c,?_,fun x b=>h.a x (List.mem_of_mem_eraseIdx b)⟩;show((s.l.eraseIdx i).map (·.c)).Pairwise (·<·);exact h.e.sublist ((List.eraseIdx_sublist s.l i).map _)
theorem cN.B {s:aA}(h:cN s)(c:Int):cN (kh s c).1:=by
 refine h.f fun i u b=>?_;have a:=h.a u (nw b);have e:=h.d;split
 . exact h
 . split
   . exact h
   . rename_i f d;exact h.j b rfl ⟨a.f,a.e,a.c,a.d,a.a,a.i,by simp,by simp,fun _=>by simpa using d,a.b⟩ (by show cF s.l+u.b.length<=_;omega)
theorem cN.jK {s:aA}(h:cN s)(d:Int):cN (lD s d).1:=by
 refine h.f fun i u c=>?_;have a:=h.a u (nw c);have f:=h.d;split
 . exact h
 . rename_i e;have b:u.e=1:=by simpa using e
   exact h.j c rfl ⟨a.f,a.e,a.c,a.d,a.a,a.i,by simp,by simp,fun _=>a.j (by rw[b];decide),a.b⟩ (by show cF s.l+u.b.length<=_;omega)
theorem Gz (l:List aL)(k:Nat)(h:k<l.length):cF (l.take (k+1))=cF (l.take k)+l[k].b.length:=by
 rw[fR h,Bf];simp[cF]
theorem GE (l:List aL)(k:Nat):cF (l.take k)<=cF l:=by
 conv=>rhs;rw[<-iN k l,Bf]
 omega
theorem O6 (l:List aL)(k:Nat)(h:k<l.length):l[k].b.length<=cF l:=by
 have a:=Gz l k h;have b:=GE l (k+1);omega
theorem GD:∀(l:List aL) (a:Int) (k:Nat) (h:k<l.length),l[k].c=a->(∀u∈l.take k,u.c≠a)->cE l a=M k
 | x::t,a,0,_,e,_=>by rw[cE,if_pos (by simpa using e)]
 | x :: t, a, k + 1, h, e, hn => by
   rw[cE,if_neg (hn x (by simp)),GD t a k (by simpa using h) (by simpa using e) (fun u b=>hn u (by simp[b]))];rfl
theorem O7:∀(l:List aL) (a:Int),(∀u∈l,u.c≠a)->cE l a=U:=by intro l;induction l <;> grind [cE]
theorem mu {l:List aL}{a:Int}{i:Nat}(h:cE l a=M i):i<l.length:=by grind [cE,xG]
theorem qD {s:aA}{a:Int}{f:Nat->aL->aA×Nat}(h:cE s.l a=U):cQ s a f=(s,10):=by
 unfold cQ;rw[h]
theorem qE {s:aA}{a:Int}{f:Nat->aL->aA×Nat}{i:Nat}(h:cE s.l a=M i):cQ s a f=f i (s.l[i]'(mu h)):=by grind [cE,cQ]
def pD (l:List aL)(id:Int):Int:=match cE l id with
 | none=>-1
 | some i=>i
theorem qG {l:List aL}{a:Int}(h:cE l a=U):pD l a=-1:=by unfold pD;rw[h]
theorem qF {l:List aL}{a:Int}{i:Nat}(h:cE l a=M i):pD l a=i:=by unfold pD;rw[h]
theorem O4 (s:aA)(size:Int)(m:ae):(eZ s size m).1.a<=s.a+1:=by
 unfold eZ;split
 . show s.a<=_;omega
 . split
   . show s.a<=_;omega
   . split
     . show s.a<=_;omega
     . split
       . show s.a<=_;omega
       . exact pH _
theorem uR (s:aA)(a:Int)(f:Nat->aL->aA×Nat)(b:∀i u,(f i u).1.a=s.a):(cQ s a f).1.a=s.a:=by grind [cQ]
theorem Gw (s:aA)(c a:Int)(b:ab):(iL s c a b).1.a=s.a:=by grind [iL,uR]
theorem GG (s:aA)(a size:Int):(lC s a size).1.a=s.a:=uR s a _ fun i u=>by
 split
 . rfl
 . split
   . rfl
   . split <;> rfl
theorem GA (s:aA)(a:Int):(mt s a).1.a=s.a:=uR s a _ fun _ _=>rfl
theorem Gx (s:aA)(a:Int):(kh s a).1.a=s.a:=uR s a _ fun i u=>by
 split
 . rfl
 . split <;> rfl
theorem GB (s:aA)(a:Int):(lD s a).1.a=s.a:=uR s a _ fun i u=>by
 split <;> rfl
def kj (s:aA)(off:Int)(b:ab)(i:Nat)(u:aL):aA×Nat :=
 if u.e≠0 then (s,19) else if off≠u.b.length then (s,17) else if 2000<u.b.length+b.length∨(0<=u.a∧u.a<u.b.length+b.length) then (s,4) else if 6000<cF s.l+b.length then (s,16)
 else (⟨s.l.set i { u with b:=u.b++b },s.a⟩,0)
def ki (s:aA)(size:Int)(i:Nat)(u:aL):aA×Nat :=
 if 0<=u.a then (s,18) else if size<0 then (s,1) else if 2000<size∨size<u.b.length then (s,4)
 else (⟨s.l.set i { u with a:=size },s.a⟩,0)
def uQ (s:aA)(i:Nat)(_:aL):aA×Nat:=(⟨s.l.eraseIdx i,s.a⟩,0)
def oM (s:aA)(i:Nat)(u:aL):aA×Nat :=
 if u.e≠0 then (s,19) else if u.a≠u.b.length then (s,14) else (⟨s.l.set i { u with e:=1 },s.a⟩,0)
def qC (s:aA)(i:Nat)(u:aL):aA×Nat :=
 if u.e≠1 then (s,19) else (⟨s.l.set i { u with e:=2 },s.a⟩,0)
theorem Be (s:aA)(c a:Int)(b:ab):iL s c a b=cQ s c (kj s a b):=rfl
theorem O5 (s:aA)(a size:Int):lC s a size=cQ s a (ki s size):=rfl
theorem Pa (s:aA)(a:Int):mt s a=cQ s a (uQ s):=rfl
theorem O8 (s:aA)(a:Int):kh s a=cQ s a (oM s):=rfl
theorem Pc (s:aA)(a:Int):lD s a=cQ s a (qC s):=rfl
def dX (c:UInt8):Bool:=c==32||c==9
def dD (c:UInt8):Bool:=lt c.toNat
def fQ (p:UInt8->Bool)(l:ab)(i:Nat):Nat:=((l.drop i).takeWhile p).length
theorem Fg {p:UInt8->Bool}{l:ab}{i:Nat}(h:i<l.length)(a:p l[i]=true):fQ p l i=1+fQ p l (i+1):=by
 unfold fQ;rw[kt h,vp,a];simp only[if_true,bG];omega
theorem Fh {p:UInt8->Bool}{l:ab}{i:Nat}(h:i<l.length)(a:p l[i]=F):fQ p l i=0:=by
 unfold fQ;rw[kt h,vp,a];rfl
theorem Fr (p:UInt8->Bool){l:ab}{i:Nat}(h:l.length<=i):fQ p l i=0:=by
 unfold fQ;rw[oO h];rfl
theorem Fp (p:UInt8->Bool)(l:ab)(i:Nat)(h:i<=l.length):i+fQ p l i<=l.length:=by
 unfold fQ;have:=(List.takeWhile_prefix (l:=l.drop i) p).length_le;rw[cO] at this;omega
def cn (l:ab)(i:Nat):Nat:=i+fQ dX l i
def aF (l:ab)(i:Nat):Nat:=fQ dD l i
theorem Fi (p:UInt8->Bool)(l:ab)(i:Nat):l.drop (i+fQ p l i)=(l.drop i).dropWhile p:=by
 unfold fQ;rw[<-List.drop_drop];generalize l.drop i=t;induction t with
 | nil=>rfl
 | cons a t b =>
   rw[vp,vm];cases p a
   . rfl
   . simpa using b
theorem Nv (p:UInt8->Bool)(l:ab)(i:Nat):(l.drop i).take (fQ p l i)=(l.drop i).takeWhile p:=by
 unfold fQ;generalize l.drop i=t;induction t with
 | nil=>rfl
 | cons a t b =>
   rw[vp];cases p a
   . rfl
   . simpa using b
abbrev cW:=ab×ab
def eY:ab->ab->Option (ab×ab)
 | _,[]=>U
 | acc,c::t=>if c=34 then M (acc,t) else if c=92 then (match t with
  | []=>U
  | d::t'=>eY (acc++[d]) t') else eY (acc++[c]) t
theorem AJ (a:ab):eY a []=U:=by unfold eY;rfl
theorem Fl (a t:ab):eY a (34::t)=M (a,t):=by unfold eY;rw[if_pos rfl]
theorem Fs (a:ab):eY a [92]=U:=by unfold eY;rw[if_neg (by decide),if_pos rfl]
theorem Fj (a:ab)(d:UInt8)(t:ab):eY a (92::d::t)=eY (a++[d]) t:=by rw[eY,if_neg (by decide),if_pos rfl]
theorem Fk (a:ab)(c:UInt8)(t:ab)(b:c≠34)(d:c≠92):eY a (c::t)=eY (a++[c]) t:=by rw[eY.eq_def];simp only[];rw[if_neg b,if_neg d]
theorem Fc (n:Nat):∀(a t v r:ab),t.length<=n->eY a t=M (v,r)->r.length<t.length∧v.length<=a.length+t.length:=by
 induction n with
 | zero =>
   intro a t v r h e;obtain rfl:t=[]:=ix (by omega);rw[AJ] at e;cases e
 | succ n b =>
   intro a t v r h e;cases t with
   | nil=>rw[AJ] at e;cases e
   | cons c t =>
     by_cases f:c=34
     . subst f;rw[Fl] at e;injection e with e;injection e with i j;subst i;subst j;simp
     . by_cases g:c=92
       . subst g;cases t with
         | nil=>rw[Fs] at e;cases e
         | cons d t =>
           rw[Fj] at e;have:=b _ _ _ _ (by simp at h ⊢;omega) e;simp at this ⊢;omega
       . rw[Fk _ _ _ f g] at e;have:=b _ _ _ _ (by simp at h ⊢;omega) e;simp at this ⊢;omega
def kI (r:ab):Nat ⊕ (ab×ab) :=
 if r.head? = M 34 then (match eY [] r.tail with
  | none=>.inl 14
  | some x=>.inr x)
 else if r.takeWhile dD=[] then .inl 5 else .inr (r.takeWhile dD,r.dropWhile dD)
def kd (r:ab):Nat ⊕ (cW×ab) :=
 if r.head? = M 59 then
  let r2:=r.tail.dropWhile dX
  if r2.takeWhile dD=[] then .inl 5
  else if (r2.dropWhile dD).head? = M 61 then (match kI (r2.dropWhile dD).tail with
   | .inl c=>.inl c
   | .inr x=>.inr ((be (r2.takeWhile dD),x.1),x.2))
  else .inl 5
 else .inl 5
def jl:Nat->ab->List cW->Nat ⊕ List cW
 | 0,_,acc=>.inr acc
 | n + 1, r, acc =>
   if r.dropWhile dX=[] then .inr acc
   else match kd (r.dropWhile dX) with
    | .inl c=>.inl c
    | .inr x=>if acc.any (fun q=>q.1==x.1.1) then .inl 9 else if acc.length=8 then .inl 8 else jl n x.2 (acc++[x.1])
def qw (l:ab):Nat ⊕ (ab×ab) :=
 let r:=l.dropWhile dX
 if r.takeWhile dD=[] then .inl 5
 else if (r.dropWhile dD).head? = M 47 then
  (if (r.dropWhile dD).tail.takeWhile dD = [] then .inl 5
   else .inr (be (r.takeWhile dD)++[47]++be ((r.dropWhile dD).tail.takeWhile dD),(r.dropWhile dD).tail.dropWhile dD))
 else .inr (be (r.takeWhile dD),r.dropWhile dD)
def kH (n:Nat)(wd r:ab)(acc:List cW):Nat ⊕ (ab×List cW):=match jl n r acc with
 | .inl c=>.inl c
 | .inr ps=>.inr (wd,ps)
def dY (l:ab):Nat ⊕ (ab×List cW) :=
 if dO l=F then .inl 3
 else match qw l with
  | .inl c=>.inl c
  | .inr x=>kH (l.length+1) x.1 x.2 []
theorem AK (l:ab)(i:Nat):(l.drop i).dropWhile dX=l.drop (cn l i):=(Fi dX l i).symm
theorem AH (l:ab)(i:Nat):(l.drop i).dropWhile dD=l.drop (i+aF l i):=(Fi dD l i).symm
theorem xm (l:ab)(i:Nat):(l.drop i).takeWhile dD=(l.drop i).take (aF l i):=(Nv dD l i).symm
theorem Nw (l:ab)(i:Nat):(l.drop i).takeWhile dD=[]<->aF l i=0:=by
 unfold aF fQ;constructor
 . intro h;rw[h];rfl
 . intro h;exact ix h
theorem AI (l:ab)(i:Nat):((l.drop i).take (aF l i)=[])=(aF l i=0):=by
 rw[<-xm];exact propext (Nw l i)
theorem xn (l:ab)(i:Nat)(h:i<=l.length):cn l i<=l.length:=Fp dX l i h
theorem Fd (l:ab)(i:Nat):i<=cn l i:=dR _ _
theorem uD (l:ab)(i:Nat)(h:i<=l.length):i+aF l i<=l.length:=Fp dD l i h
theorem NF (l:ab)(i:Nat):kI (l.drop i) =
 if l[i]? = M 34 then (match eY [] (l.drop (i+1)) with
  | none=>.inl 14
  | some x=>.inr x)
 else if aF l i=0 then .inl 5 else .inr ((l.drop i).take (aF l i),l.drop (i+aF l i)):=by
 unfold kI;simp only[List.head?_drop,List.tail_drop,xm,AH,AI]
theorem NG (l:ab)(i:Nat):kd (l.drop i) =
 if l[i]? = M 59 then
  (if aF l (cn l (i + 1)) = 0 then .inl 5
   else if l[cn l (i+1)+aF l (cn l (i+1))]? = M 61 then (match kI (l.drop (cn l (i+1)+aF l (cn l (i+1))+1)) with
    | .inl c=>.inl c
    | .inr x=>.inr ((be ((l.drop (cn l (i+1))).take (aF l (cn l (i+1)))),x.1),x.2))
   else .inl 5)
 else .inl 5:=by
 unfold kd;simp only[List.head?_drop,List.tail_drop,AK,AH,xm,AI]
theorem NB (l:ab)(n i:Nat)(a:List cW)(b:i<=l.length):jl (n+1) (l.drop i) a =
 if cn l i=l.length then .inr a
 else match kd (l.drop (cn l i)) with
  | .inl c=>.inl c
  | .inr x=>if a.any (fun q=>q.1==x.1.1) then .inl 9 else if a.length=8 then .inl 8 else jl n x.2 (a++[x.1]):=by
 have d:=xn l i b;rw[jl,AK];by_cases h:cn l i=l.length
 . rw[if_pos h,if_pos (by rw[h,List.drop_length])]
 . rw[if_neg h,if_neg (fun e=>h (by have:=lL List.length e;rw[cO] at this;simp at this;omega))]
theorem NH (l:ab):qw l =
 if aF l (cn l 0)=0 then .inl 5
 else if l[cn l 0+aF l (cn l 0)]? = M 47 then
  (if aF l (cn l 0 + aF l (cn l 0) + 1) = 0 then .inl 5
   else .inr (be ((l.drop (cn l 0)).take (aF l (cn l 0)))++[47]++be ((l.drop (cn l 0+aF l (cn l 0)+1)).take (aF l (cn l 0+aF l (cn l 0)+1))),l.drop (cn l 0+aF l (cn l 0)+1+aF l (cn l 0+aF l (cn l 0)+1))))
 else .inr (be ((l.drop (cn l 0)).take (aF l (cn l 0))),l.drop (cn l 0+aF l (cn l 0))):=by
 unfold qw;have e:l.dropWhile dX=l.drop (cn l 0):=by have:=AK l 0;rwa[List.drop_zero] at this
 simp only[e,AH,List.head?_drop,List.tail_drop,xm,AI]
theorem Nx (l:ab)(c:dO l=true)(a b:Nat)(d:cn l 0=a)(e:aF l a=b):dY l =
 if b=0 then .inl 5
 else if l[a+b]? = M 47 then
  (if aF l (a + b + 1) = 0 then .inl 5
   else kH (l.length+1) (be ((l.drop a).take b)++[47]++be ((l.drop (a+b+1)).take (aF l (a+b+1)))) (l.drop (a+b+1+aF l (a+b+1))) [])
 else kH (l.length+1) (be ((l.drop a).take b)) (l.drop (a+b)) []:=by grind [dO,cn,aF,dY,kH,be,NH]
theorem NI (l:ab)(n i:Nat)(wd:ab)(a:List cW)(e:i<=l.length):kH (n+1) wd (l.drop i) a =
 if cn l i=l.length then .inr (wd,a)
 else match kd (l.drop (cn l i)) with
  | .inl c=>.inl c
  | .inr x=>if a.any (fun q=>q.1==x.1.1) then .inl 9 else if a.length=8 then .inl 8 else kH n wd x.2 (a++[x.1]):=by
 unfold kH;rw[NB l n i a e];by_cases h:cn l i=l.length
 . rw[if_pos h,if_pos h]
 . rw[if_neg h,if_neg h];cases kd (l.drop (cn l i)) with
   | inl c=>rfl
   | inr x =>
     simp only[];by_cases b:(a.any fun q=>q.1==x.1.1)=true
     . rw[if_pos b,if_pos b]
     . rw[if_neg b,if_neg b];by_cases d:a.length=8
       . rw[if_pos d,if_pos d]
       . rw[if_neg d,if_neg d]
def mp:List (Int×ab):=[(200,[79,75]),(201,[67,114,101,97,116,101,100]),(204,[78,111,32,67,111,110,116,101,110,116]),(400,[66,97,100,32,82,101,113,117,101,115,116]),(404,[78,111,116,32,70,111,117,110,100]),(405,[77,101,116,104,111,100,32,78,111,116,32,65,108,108,111,119,101,100]),(409,[67,111,110,102,108,105,99,116]),(412,[80,114,101,99,111,110,100,105,116,105,111,110,32,70,97,105,108,101,100]),(413,[67,111,110,116,101,110,116,32,84,111,111,32,76,97,114,103,101]),(415,[85,110,115,117,112,112,111,114,116,101,100,32,77,101,100,105,97,32,84,121,112,101]),(507,[73,110,115,117,102,102,105,99,105,101,110,116,32,83,116,111,114,97,103,101])]
def uH:List (Int×ab)->Int->ab
 | [],_=>[]
 | p::t,n=>if p.1=n then p.2 else uH t n
def gS (n:Int):ab:=uH mp n
theorem AZ:∀(l:List (Int×ab)) (n:Int),(∀p∈l,p.1≠n)->uH l n=[]:=by intro l;induction l <;> grind [uH]
theorem Ot {n:Int}(h:gS n≠[]):200<=n∧n<=507:=by
 by_cases c:∀p∈mp,p.1≠n
 . exact absurd (AZ mp n c) h
 . have:∃p,p∈mp∧p.1=n:=by
    apply sF;intro d;exact c (fun p b e=>d ⟨p,b,e⟩)
   obtain⟨p,b,rfl⟩:=this;have a:∀q∈mp,200<=q.1∧q.1<=507:=by decide
   exact a p b
theorem FN (n:Int):(gS n).length<=22:=by
 by_cases c:∀p∈mp,p.1≠n
 . rw[gS,AZ mp n c];decide
 . have:∃p,p∈mp∧p.1=n:=by
    apply sF;intro d;exact c (fun p b e=>d ⟨p,b,e⟩)
   obtain⟨p,b,rfl⟩:=this;have a:∀q∈mp,(uH mp q.1).length<=22:=by decide
   exact a p b
def jn (p:ae×ae):ab:=(bP p.1.data.toList p.2.data.toList).1++[13,10]
def jF:aC->Nat
 | []=>0
 | p::t=>if (bP p.1.data.toList p.2.data.toList).2≠0 then (bP p.1.data.toList p.2.data.toList).2 else jF t
theorem Op:∀(l:aC),(∀p∈l,(bP p.1.data.toList p.2.data.toList).2=0)->jF l=0:=by intro l;induction l <;> grind [bP,jF]
theorem FO:∀(l:aC) (i:Nat) (a:i<l.length),(∀p∈l.take i,(bP p.1.data.toList p.2.data.toList).2=0)->(bP l[i].1.data.toList l[i].2.data.toList).2≠0->jF l=(bP l[i].1.data.toList l[i].2.data.toList).2
 | p::t,0,_,_,hc=>by rw[jF,if_pos (by simpa using hc)];rfl
 | p :: t, i + 1, a, hz, hc => by
   rw[jF,if_neg (by simpa using hz p (by simp)),FO t i (by simpa using a) (fun q b=>hz q (by simp[b])) (by simpa using hc)];rfl
def FP:ab:=[72,84,84,80,47,49,46,49,32]
def xv:ab:=[67,111,110,116,101,110,116,45,76,101,110,103,116,104,58,32]
def ke (st:Int):ab:=FP++bx 8 st.toNat++[32]++gS st++[13,10]
def rX (st:Int)(l:aC)(nv:Nat)(body:ab):ab×Nat :=
 if gS st=[] then ([],11) else if 16<=l.length then ([],8) else if nv≠0 then ([],12) else if jF l≠0 then ([],jF l) else (ke st++l.flatMap jn++xv++bx 8 body.length++[13,10,13,10]++body,0)
def jb (s:dz)(c:UInt8):Bool:=decide (s.a=0∧s.b≠4∧(de s c).a=0∧(de s c).b=4)
theorem It {s:dz}(h:s.a≠0)(c:UInt8):de s c=s:=by unfold de;rw[if_pos h]
def fm (s:dz):Nat:=if s.a≠0 then s.a else if s.b=4 then 18 else 0
def hQ (s:dz):Nat:=if s.b=0 then 0 else if s.b=3 then 2 else 1
def jU (s:dz):Nat:=if s.b=1 then s.c else 0
structure jT (s:dz):Prop where
 e:s.b<=4
 d:qu s.d
 g:s.d.a=0
 a:s.b=1->0<s.c
 b:s.c<=4000
 f:s.f<=4000
 c:s.e<=16
theorem jT.y:jT rH:=⟨ax _,qu.a,rfl,fun h=>(by cases h),ax _,ax _,ax _⟩
theorem kz {s:dz}:fm s=0<->s.a=0∧s.b≠4:=by grind [fm]
theorem jT.j {s:dz}(h:jT s)(t:ab):jT (fA s t):=by grind [jT,fA]
theorem jT.r {s:dz}(h:jT s)(c:UInt8):jT (de s c):=by
 have l:=h;obtain⟨f,g,k,i,j,b,d⟩:=h;unfold de;split
 . exact l
 . split
   . exact⟨f,g,k,i,j,b,d⟩
   . split
     . refine⟨?_,g,k,fun e=>?_,(by show s.c-1<=4000;omega),b,d⟩
       . show(if s.c<=1 then 2 else 1)<=4;split <;> omega
       . have m:(if s.c<=1 then 2 else 1)=1:=e;show 0<s.c-1;split at m <;> omega
     . split
       . exact⟨f,g,k,i,j,b,d⟩
       . split
         . exact jT.j (s:={ s with d:=dw }) ⟨f,qu.a,rfl,i,j,b,d⟩ _
         . exact⟨f,xk g,(by rename_i a _;show(bi s.d c).a=0;omega),i,j,b,d⟩
theorem Cc {t:ab}(h:∀b∈t,cf.contains b=F):Lib.trimS t cf=t:=by
 have c:∀u:ab,(∀b∈u,cf.contains b=F)->u.dropWhile (cf.contains ·)=u:=by
  intro u d;cases u with
  | nil=>rfl
  | cons a v=>rw[vm,d a (lM ..)];rfl
 unfold Lib.trimS Lib.trimLeftS Lib.trimRightS;rw[c t.reverse (fun b e=>h b (List.mem_reverse.1 e)),List.reverse_reverse,c t h]
theorem Iu (s:dz)(c:UInt8):(iG s c).length<=1:=by unfold iG;split <;> simp
open Go.RowKit
theorem yB (l:ab):(Lib.trimS l cf).length<=l.length:=by
 unfold Lib.trimS Lib.trimLeftS Lib.trimRightS;have a:=(sA (l:=(l.reverse.dropWhile (cf.contains ·)).reverse) (cf.contains ·)).length_le;have b:=(sA (l:=l.reverse) (cf.contains ·)).length_le;simp only[List.length_reverse] at a b;omega
theorem Da (l:ab)(c:UInt8):(Lib.indexByte l c=-1∧aV c l=l.length)∨(Lib.indexByte l c=(aV c l:Int)∧aV c l<l.length):=by
 by_cases h:Lib.indexByte l c=-1
 . refine Or.inl ⟨h,Jh fun j a e=>?_⟩;exact Lib.indexByte_none h j (by rw[iz a,e])
 . have f:=Lib.indexByte_ge l c;obtain⟨o,d⟩:∃o:Nat,Lib.indexByte l c=o:=⟨(Lib.indexByte l c).toNat,by omega⟩;obtain⟨g,i⟩:=Lib.indexByte_some d;obtain⟨b,k⟩:=fe.1 g;have:=Jk b k fun j a e=>i j a (by rw[iz (by omega),e]);refine Or.inr ⟨by rw[d,this],by omega⟩
theorem zy (p q:UInt8->Bool)(h:∀b,q b=true->p b=true):∀l:ab,(l.dropWhile q).all p=l.all p
 | []=>rfl
 | a :: t => by
   rw[vm];cases c:q a
   . rfl
   . rw[if_pos rfl,zy p q h t,qX,h a c];rfl
theorem Dd (b:UInt8)(h:cf.contains b=true):er b.toNat=true:=by
 have a:=b.toNat_lt;have:=(show ∀n:Fin 256,cf.contains n.val.toUInt8=true->er ((n.val.toUInt8).toNat:Int)=true by decide +kernel) ⟨b.toNat,a⟩;have e:b.toNat.toUInt8=b:=by simp
 simp only[e] at this;exact this h
theorem Je (l:ab):dO (Lib.trimS l cf)=dO l:=by
 unfold dO Lib.trimS Lib.trimLeftS Lib.trimRightS;rw[zy _ _ Dd,List.all_reverse,zy _ _ Dd,List.all_reverse]
theorem Ji (l:ab):aY l=if aV 58 l=l.length then jg 5
 else if fj (l.take (aV 58 l))=F then jg 6
 else if 40<aV 58 l then jg 4
 else if dO (Lib.trimS (l.drop (aV 58 l+1)) cf)=F then jg 3
 else ⟨l.take (aV 58 l),Lib.trimS (l.drop (aV 58 l+1)) cf,0⟩:=by
 unfold aY;rw[Je]
structure C8 (n v:ab):Prop where
 c:fj n=true
 b:n.length<=40
 a:dO v=true
 d:Lib.trimS v cf=v
theorem Jf {n v:ab}(h:(bP n v).2=0):C8 n v∧n.length+2+v.length<=200:=by grind [bP,C8]
theorem C9 (l:ab):(aY l).b.length<=l.length∧(aY l).c.length<=l.length:=by
 unfold aY;split
 . simp[jg]
 . split
   . simp[jg]
   . split
     . simp[jg]
     . split
       . simp[jg]
       . refine⟨List.length_take_le' ..,?_⟩;have:=yB (l.drop (aV 58 l+1));rw[cO] at this;show(Lib.trimS (l.drop (aV 58 l+1)) cf).length<=l.length;omega
theorem C7 (n v:ab):(bP n v).1.length<=n.length+2+v.length:=by grind [bP]
theorem Fe (p:UInt8->Bool)(l:ab):(l.takeWhile p).length<=l.length:=(List.takeWhile_prefix (l:=l) p).length_le
theorem uC (p:UInt8->Bool)(l:ab):(l.dropWhile p).length<=l.length:=(sA (l:=l) p).length_le
theorem Fo (p:UInt8->Bool)(l:ab):(l.takeWhile p).length+(l.dropWhile p).length=l.length:=by
 rw[<-aD,List.takeWhile_append_dropWhile]
theorem NC {r v r':ab}(h:kI r=.inr (v,r')):v.length<=r.length∧r'.length<=r.length:=by
 unfold kI at h;split at h
 . split at h
   . cases h
   . rename_i x a;injection h with h;subst h;have:=Fc _ _ _ _ _ (ak _) a;rw[qU] at this;simp only[iv] at this;omega
 . split at h
   . cases h
   . injection h with h;injection h with b c;subst b;subst c;exact⟨Fe _ _,uC _ _⟩
theorem ND {r r':ab}{p:cW}(h:kd r=.inr (p,r')):p.1.length<=r.length∧p.2.length<=r.length∧r'.length<=r.length:=by
 unfold kd at h;split at h
 . simp only[] at h;split at h
   . cases h
   . split at h
     . split at h
       . cases h
       . rename_i x a;injection h with h;injection h with b c;subst b;subst c;have d:=NC (v:=x.1) (r':=x.2) a;rw[qU] at d;have f:=uC dD (r.tail.dropWhile dX);have e:=uC dX r.tail;have g:=Fe dD (r.tail.dropWhile dX);rw[qU] at e;dsimp only;rw[tN];omega
     . cases h
 . cases h
theorem Ff (N:Nat):∀(n:Nat) (r:ab) (a b:List cW),r.length<=N->(∀p∈a,p.1.length<=N∧p.2.length<=N)->jl n r a=.inr b->∀p∈b,p.1.length<=N∧p.2.length<=N
 | 0, r, a, b, _, ha, h => by
   rw[jl] at h;injection h with h;subst h;exact ha
 | n + 1, r, a, b, e, ha, h => by
   rw[jl] at h;split at h
   . injection h with h;subst h;exact ha
   . split at h
     . cases h
     . rename_i x d;split at h
       . cases h
       . split at h
         . cases h
         . have f:=ND (p:=x.1) (r':=x.2) d;have g:=uC dX r;refine Ff N n x.2 _ b (by omega) (fun p c=>?_) h;rw[eC,cY] at c;rcases c with c | rfl
           . exact ha p c
           . omega
theorem NE {l wd r:ab}(h:qw l=.inr (wd,r)):wd.length<=l.length∧r.length<=l.length:=by
 unfold qw at h;simp only[] at h;have f:=uC dX l;have g:=Fo dD (l.dropWhile dX);split at h
 . cases h
 . split at h
   . rename_i a;split at h
     . cases h
     . injection h with h;injection h with b c;subst b;subst c;have d:=Fo dD ((l.dropWhile dX).dropWhile dD).tail;rw[qU] at d;have i:0<((l.dropWhile dX).dropWhile dD).length:=by
        cases e:(l.dropWhile dX).dropWhile dD with
        | nil=>rw[e] at a;cases a
        | cons _ _=>simp
       simp only[aD,tN,List.length_singleton];omega
   . injection h with h;injection h with b c;subst b;subst c;rw[tN];omega
theorem AG {l wd:ab}{b:List cW}(h:dY l=.inr (wd,b)):wd.length<=l.length∧∀p∈b,p.1.length<=l.length∧p.2.length<=l.length:=by
 unfold dY at h;split at h
 . cases h
 . split at h
   . cases h
   . rename_i x c;unfold kH at h;split at h
     . cases h
     . rename_i d a;injection h with h;injection h with e f;subst e;subst f;obtain⟨g,i⟩:=NE (wd:=x.1) (r:=x.2) c;exact⟨g,Ff l.length _ _ _ _ i (fun p a=>by cases a) a⟩
theorem EQ (t:ab):0<=(fB t).1∧(fB t).1<68719476736:=by
 unfold fB;generalize Lib.trimS (t.take (aV 59 t)) cf=l;unfold bB;split
 . exact⟨pH _,by decide⟩
 . split
   . rename_i a b;have c:¬(6:Int)<l.length:=fun e=>a (Or.inr e);exact we 16 (by omega) (by omega) l b (by omega)
   . exact⟨pH _,by decide⟩
