import Derived.Test.YtodmelffkfbalaaGreatDoorAl
import Derived.Lib.SlTrimSet
import Derived.Lib.IndexLaws
import Derived.Below
open Option renaming none->U,some->M
open Bool renaming false->F
namespace Go.Proofs.YtodmelffkfbalaaGreatDoor
def nK (c:Int):Bool:=decide (48<=c)&&decide (c<=57)
def oE (c:Int):Bool:=decide (65<=c)&&decide (c<=90)
def rK (c:Int):Bool:=(decide (97<=c)&&decide (c<=122))||oE c
def ex (c:Int):Bool:=c==9||(decide (32<=c)&&c != 127)
def Ce:ab:=[33,35,36,37,38,39,42,43,45,46,94,95,96,124,126]
def lt (c:Int):Bool:=nK c||rK c||decide (0<=Lib.indexByte Ce c.toNat.toUInt8)
def aF (c:Int):Int:=if nK c then c-48 else if decide (97<=c)&&decide (c<=102) then c-87 else if decide (65<=c)&&decide (c<=70) then c-55 else -1
theorem IF {p:Int->Bool}(h:(List.range 256).all (fun n=>p (n:Int))=true)(c:Int)(a:0<=c)(b:c<=255):p c=true:=by
 obtain⟨n,rfl⟩:=Int.eq_ofNat_of_zero_le a;exact sI.1 h n (List.mem_range.2 (by omega))
def fi (l:ab):Bool:=!l.isEmpty&&l.all fun b=>lt b.toNat
def yJ (l:ab):Bool:=l.all fun b=>lt b.toNat
def dP (l:ab):Bool:=l.all fun b=>ex b.toNat
theorem Iy (c:Int)(a:0<=c)(b:c<=255):-1<=aF c∧aF c<=15:=by
 have:=IF (p:=fun c=>decide (-1<=aF c∧aF c<=15)) (by decide +kernel) c a b;simpa using this
theorem tP (s:ae)(k:Nat)(h:k<s.size):s.data.toList.take (k+1)=s.data.toList.take k++[s[k]]:=by
 rw[fR (by simpa using h)];rfl
theorem tR (s:ae)(k:Nat)(h:s.size<=k):s.data.toList.take k=s.data.toList :=
 hZ (by simpa using h)
theorem yR (p:UInt8->Bool)(s:ae)(k:Nat)(h:k<s.size)(b:p s[k]=F):s.data.toList.all p=F:=by
 rw[Bool.eq_false_iff,Ne,sI];intro a;have:=a s[k] (by
  have:s[k]=s.data.toList[k]'(by simpa using h):=rfl;rw[this];exact eX _)
 rw[this] at b;cases b
def gy (base:Int)(b:UInt8):Bool:=decide (0<=aF b.toNat)&&decide (aF b.toNat<base)
def lq (base:Int)(l:ab):Int:=l.foldl (fun n b=>n*base+aF b.toNat) 0
def bB (base most:Int)(l:ab):Int×Bool :=
 if l=[]∨most<l.length then (0,F) else if l.all (gy base) then (lq base l,true) else (0,F)
theorem It (a:Int)(l:ab)(b:UInt8):lq a (l++[b])=lq a l*a+aF b.toNat:=by
 simp[lq]
theorem oJ (b:UInt8):-1<=aF b.toNat∧aF b.toNat<=15:=Iy _ (by omega) (by have:=b.toNat_lt;omega)
theorem Cb (a:Int)(c:0<=a)(d:a<=16):∀(l:ab) (n:Int) (B:Nat),0<=n->n<16 ^ B->l.all (gy a)=true ->
 0<=l.foldl (fun n b=>n*a+aF b.toNat) n∧l.foldl (fun n b=>n*a+aF b.toNat) n<16 ^ (B+l.length)
 | [],n,B,f,g,_=>⟨f,g⟩
 | b :: l, n, B, f, g, hl => by
   rw[re,hQ] at hl;have i:=oJ b;have j:0<=aF b.toNat:=by
    have:=hl.1;unfold gy at this;rw[hQ] at this;exact sF this.1
   have k:=Int.mul_nonneg f c;have m:=Int.mul_le_mul_of_nonneg_left d f;have e:(16:Int) ^ (B+1)=16 ^ B*16:=Int.pow_succ ..;have:=Cb a c d l (n*a+aF b.toNat) (B+1) (by omega) (by omega) hl.2;rw[rf,bF,show B+(l.length+1)=B+1+l.length by omega];exact this
theorem wi (a:Int)(b:0<=a)(c:a<=16)(l:ab)(d:l.all (gy a)=true)(f:l.length<=9):0<=lq a l∧lq a l<68719476736:=by
 have h:=Cb a b c l 0 0 (pO _) (by decide) d;have:(16:Int) ^ (0+l.length)<=16 ^ 9:=by
  have:(16:Nat) ^ (0+l.length)<=16 ^ 9:=Nat.pow_le_pow_right (by decide) (by omega);exact_mod_cast this
 have e:(16:Int) ^ 9=68719476736:=by decide
 exact⟨h.1,by have:=h.2;unfold lq;omega⟩
theorem yL (p:UInt8->Bool)(l:ab)(b:UInt8):(l++[b]).all p=(l.all p&&p b):=by simp
theorem yQ (b a:Int)(l:ab)(h:l=[]∨a<l.length):bB b a l=(0,F):=by unfold bB;rw[if_pos h]
theorem yI (a b:Int)(l:ab)(h:l.all (gy a)=F):bB a b l=(0,F):=by
 unfold bB;split
 . rfl
 . rw[h];rfl
theorem yS (a b:Int)(l:ab)(c:l≠[])(d:¬b<l.length)(h:l.all (gy a)=true):bB a b l=(lq a l,true):=by
 unfold bB;rw[if_neg (by simp[c,d]),h];rfl
theorem cA (s:ae):s.data.toList.length=s.size:=by simp
theorem yP (s:ae)(h:0<s.size):s.data.toList≠[]:=by
 intro e;have:=cA s;rw[e] at this;simp at this;omega
theorem ql (s:ae)(h:s.size=0):s=⟨#[]⟩:=by
 apply ByteArray.ext;exact Array.eq_empty_of_size_eq_zero h
theorem qm (s:ae)(h:0<s.size):s.toList.isEmpty=F:=by
 rw[Lib.toList_data];cases a:s.data.toList with
 | nil=>exact absurd a (yP s h)
 | cons _ _=>rfl
def ma (b:UInt8)(j:Nat):UInt8:=if 65<=b.toNat∧b.toNat<65+j then b+32 else b
def fA (b:UInt8):UInt8:=ma b 26
def aY (l:ab):ab:=l.map fA
theorem Cc (j:Nat)(h:j<26):((⟨#[65,66,67,68,69,70,71,72,73,74,75,76,77,78,79,80,81,82,83,84,85,86,87,88,89,90]⟩:ae)[j]'h).toNat=65+j :=
 (show ∀j:Fin 26,((⟨#[65,66,67,68,69,70,71,72,73,74,75,76,77,78,79,80,81,82,83,84,85,86,87,88,89,90]⟩:ae)[j.val]'j.isLt).toNat=65+j.val by decide +kernel) ⟨j,h⟩
theorem IH (j:Nat)(h:j<26):((⟨#[97,98,99,100,101,102,103,104,105,106,107,108,109,110,111,112,113,114,115,116,117,118,119,120,121,122]⟩:ae).extract j (j+1)).data.toList=[((97+j).toUInt8)] :=
 (show ∀j:Fin 26,((⟨#[97,98,99,100,101,102,103,104,105,106,107,108,109,110,111,112,113,114,115,116,117,118,119,120,121,122]⟩:ae).extract j.val (j.val+1)).data.toList=[((97+j.val).toUInt8)] by decide +kernel) ⟨j,h⟩
theorem Iz (b:UInt8)(j:Nat)(h:j<26)(a:(((((⟨#[65,66,67,68,69,70,71,72,73,74,75,76,77,78,79,80,81,82,83,84,85,86,87,88,89,90]⟩:ae)[j]'h).toNat:Nat):Int)==(b.toNat:Int))=true):
 ((⟨#[97,98,99,100,101,102,103,104,105,106,107,108,109,110,111,112,113,114,115,116,117,118,119,120,121,122]⟩:ae).extract j (j+1)).data.toList=[ma b (j+1)]:=by
 rw[Cc j h] at a;have c:b.toNat=65+j:=by have:=cJ.1 a;omega
 rw[IH j h];unfold ma;rw[if_pos (by omega)];have:(97+j).toUInt8=b+32:=by
  apply iO.1;rw[UInt8.toNat_add,c];simp;omega
 rw[this]
theorem Iu (b:UInt8)(j:Nat)(h:j<26)(a:(((((⟨#[65,66,67,68,69,70,71,72,73,74,75,76,77,78,79,80,81,82,83,84,85,86,87,88,89,90]⟩:ae)[j]'h).toNat:Nat):Int)==(b.toNat:Int))=F):
 ma b (j+1)=ma b j:=by grind [ma,Cc]
theorem Iv (b:UInt8):ma b 0=b:=by unfold ma;rw[if_neg (by omega)]
theorem Iw (s:ae)(k:Nat)(h:k<s.size):(s.extract k (k+1)).data.toList=[s[k]]:=by
 rw[Lib.extract_data,show k+1-k=1 by omega,hJ (by simpa using h)];rfl
theorem Ix (l:ab)(b:UInt8):aY (l++[b])=aY l++[fA b]:=by simp[aY]
theorem rL (l:ab):(aY l).length=l.length:=by simp[aY]
theorem jy (a b:ae):(a++b).data.toList=a.data.toList++b.data.toList:=by simp
theorem ph {x:ae}{l:ab}(h:x.data.toList=l):x=⟨l.toArray⟩:=by
 obtain⟨⟨m⟩⟩:=x;simp only at h;rw[h]
theorem qo {x:ae}{l:ab}(h:x.data.toList=l):x.size=l.length:=by rw[<-h,cA]
def dQ:ab:=[48,49,50,51,52,53,54,55,56,57,97,98,99,100,101,102]
theorem yO (j:Nat)(h:j<16):((⟨#[48,49,50,51,52,53,54,55,56,57,97,98,99,100,101,102]⟩:ae).extract j (j+1)).data.toList=[dQ.getD j 0] :=
 (show ∀j:Fin 16,((⟨#[48,49,50,51,52,53,54,55,56,57,97,98,99,100,101,102]⟩:ae).extract j.val (j.val+1)).data.toList=[dQ.getD j.val 0] by decide +kernel) ⟨j,h⟩
theorem IC (b:UInt8)(j:Nat)(h:j<16)(a:fA b=dQ.getD j 0):aF b.toNat=j:=by
 have c:=b.toNat_lt;have:=(show ∀(n:Fin 256) (j:Fin 16),fA n.val.toUInt8=dQ.getD j.val 0->aF ((n.val.toUInt8).toNat:Int)=(j.val:Int) by decide +kernel) ⟨b.toNat,c⟩ ⟨j,h⟩;have e:b.toNat.toUInt8=b:=by simp
 simp only[e] at this;exact this a
theorem IA (b:UInt8)(a:∀j,j<16->fA b≠dQ.getD j 0):aF b.toNat=-1:=by
 have c:=b.toNat_lt;have:=(show ∀(n:Fin 256),(∀j:Fin 16,fA n.val.toUInt8≠dQ.getD j.val 0)->aF ((n.val.toUInt8).toNat:Int)=-1 by decide +kernel) ⟨b.toNat,c⟩;have e:b.toNat.toUInt8=b:=by simp
 simp only[e] at this;exact this fun j=>a j.val j.isLt
theorem ID (b:UInt8)(j:Nat)(h:j<16):([fA b]==((⟨#[48,49,50,51,52,53,54,55,56,57,97,98,99,100,101,102]⟩:ae).extract j (j+1)).toList)=decide (fA b=dQ.getD j 0):=by
 rw[Lib.toList_data,yO j h];by_cases e:fA b=dQ.getD j 0
 . rw[e];simp
 . rw[aX e];exact aO.2 (fun h=>e (by simpa using h))
theorem wg (b:UInt8):gy 16 b=decide (0<=aF b.toNat):=by
 have:=oJ b;unfold gy;rw[bq (show aF b.toNat<16 by omega)];simp
def bw:Nat->Nat->ab
 | 0,n=>[(48+n).toUInt8]
 | f+1,n=>if n<10 then [(48+n).toUInt8] else bw f (n / 10)++[(48+n % 10).toUInt8]
def gM:Nat->Nat->ab
 | 0,n=>[dQ.getD n 0]
 | f+1,n=>if n<16 then [dQ.getD n 0] else gM f (n / 16)++[dQ.getD (n % 16) 0]
theorem gz:∀f n,(bw f n).length<=f+1∧1<=(bw f n).length:=by intro l;induction l <;> grind [bw]
theorem B9:∀f n,(gM f n).length<=f+1∧1<=(gM f n).length:=by intro l;induction l <;> grind [gM]
theorem Cd (j:Nat)(h:j<16):gy 16 (dQ.getD j 0)=true∧aF (dQ.getD j 0).toNat=j :=
 (show ∀j:Fin 16,gy 16 (dQ.getD j.val 0)=true∧aF (dQ.getD j.val 0).toNat=j.val by decide +kernel) ⟨j,h⟩
theorem Ca (f n:Nat)(h:n<16):gM f n=[dQ.getD n 0]:=by
 cases f with
 | zero=>rfl
 | succ f=>unfold gM;rw[if_pos h]
theorem IB (f n:Nat)(h:¬n<16):(gM f (n / 16))++(gM f (n % 16))=gM (f+1) n:=by grind [gM,Ca]
theorem II (b:UInt8)(h:oE b.toNat=F):fA b=b:=by
 unfold fA ma;rw[if_neg];intro a;unfold oE at h;rw[bq (by omega),bq (by omega)] at h;cases h
theorem IE (b:UInt8)(h:oE b.toNat=true):((fA b).toNat:Int)=b.toNat-65+97:=by
 unfold oE at h;rw[hQ,bN,bN] at h;unfold fA ma;rw[if_pos (by omega),UInt8.toNat_add];have:(32:UInt8).toNat=32:=rfl;rw[this];omega
def bX:ab:=[32,9]
def dH (b:UInt8):ab:=if b=13 then [92,114] else if b=10 then [92,110] else if b=92 then [92,92] else if b.toNat<32∨126<b.toNat then [92,120,dQ.getD (b.toNat / 16) 0,dQ.getD (b.toNat % 16) 0] else [b]
def dd (l:ab):ab:=l.flatMap dH
def dR (l:ab):UInt8×Nat :=
 match l with
 | []=>(0,0)
 | c :: r => if c = 92 then
     match r with
     | []=>(0,0)
     | d :: q => if d = 114 then (13, 2) else if d = 110 then (10, 2) else if d = 92 then (92, 2) else if d = 120 then
         match q with
         | x::y::_=>if 0<=aF x.toNat∧0<=aF y.toNat then ((aF x.toNat*16+aF y.toNat).toNat.toUInt8,4) else (0,0)
         | _=>(0,0)
      else (0,0)
  else (c,1)
def po:Nat->ab->Option (ab)
 | _,[]=>M []
 | 0,_::_=>U
 | f+1,l@(_::_)=>if (dR l).2=0 then U else (po f (l.drop (dR l).2)).map ((dR l).1::·)
def fD (l:ab):Option (ab):=po l.length l
theorem Ct:∀(f g:Nat) (l:ab),l.length<=f->l.length<=g->po f l=po g l
 | _,_,[],_,_=>by simp[po]
 | 0,_,_::_,h,_=>by simp at h
 | _+1,0,_::_,_,h=>by simp at h
 | f + 1, g + 1, c :: r, h, h' => by
   unfold po;split
   . rfl
   . rw[Ct f g _ (by simp at h ⊢;omega) (by simp at h' ⊢;omega)]
theorem Cx:fD []=M []:=rfl
theorem yW {l:ab}(h:l≠[])(a:(dR l).2=0):fD l=U:=by
 cases l with
 | nil=>exact absurd rfl h
 | cons c r=>unfold fD;simp only[bF];unfold po;rw[if_pos a]
theorem ww {l:ab}(h:l≠[])(a:(dR l).2≠0):fD l=(fD (l.drop (dR l).2)).map ((dR l).1::·):=by
 cases l with
 | nil=>exact absurd rfl h
 | cons c r =>
   unfold fD;simp only[bF];rw[po];rw[if_neg a,Ct r.length (List.drop (dR (c::r)).2 (c::r)).length _ (by simp;omega) (am _)]
theorem CE (l:ab):(dR l).2<=l.length:=by
 unfold dR;repeat' split
 all_goals simp
theorem IX (b:UInt8)(r:ab):dR (dH b++r)=(b,(dH b).length):=by
 have h:∀n:Fin 256,∀b:UInt8,b=n.val.toUInt8->dH b=[b]∧b≠92∨(dH b=[92,114]∧b=13∨dH b=[92,110]∧b=10∨dH b=[92,92]∧b=92)∨∃x y,dH b=[92,120,x,y]∧0<=aF x.toNat∧0<=aF y.toNat∧(aF x.toNat*16+aF y.toNat).toNat.toUInt8=b:=by
  intro n b i;unfold dH;by_cases d:b=13
  . subst d;simp
  . by_cases a:b=10
    . subst a;simp
    . by_cases c:b=92
      . subst c;simp
      . rw[if_neg d,if_neg a,if_neg c];split
        . refine Or.inr (Or.inr ⟨_,_,rfl,?_⟩);have e:=b.toNat_lt;obtain⟨-,f⟩:=Cd (b.toNat / 16) (by omega);obtain⟨-,g⟩:=Cd (b.toNat % 16) (by omega);rw[f,g];refine⟨by omega,by omega,?_⟩;have:((b.toNat / 16:Nat):Int)*16+((b.toNat % 16:Nat):Int)=(b.toNat:Int):=by omega
          rw[this];simp
        . exact Or.inl ⟨rfl,c⟩
 rcases h ⟨b.toNat,b.toNat_lt⟩ b (by simp) with ⟨h,a⟩ | (⟨h,a⟩ | ⟨h,a⟩ | ⟨h,a⟩) | ⟨x,y,h,d,a,c⟩
 . rw[h];simp[dR,a]
 . rw[h,a];rfl
 . rw[h,a];rfl
 . rw[h,a];rfl
 . rw[h];show dR (92::120::x::y::r)=_;simp only[dR];simp[d,a,c]
theorem CF (b:UInt8):dH b≠[]∧(dH b).length≠0:=by
 unfold dH;repeat' split
 all_goals simp
theorem CA:∀l:ab,fD (dd l)=M l
 | []=>rfl
 | b :: r => by
   have e:dd (b::r)=dH b++dd r:=by simp[dd]
   have c:=IX b (dd r);have a:dH b++dd r≠[]:=by have:=(CF b).1;simp[this]
   rw[e,ww a (by rw[c];exact(CF b).2),c];simp only[List.drop_left];rw[CA r];rfl
theorem IR (b:UInt8):∀c∈dH b,32<=c.toNat∧c.toNat<=126:=by
 have d:∀j:Fin 16,32<=(dQ.getD j.val 0).toNat∧(dQ.getD j.val 0).toNat<=126:=by decide
 have e:=b.toNat_lt;unfold dH;repeat' split
 all_goals intro c a
 all_goals simp only[fS,List.not_mem_nil,or_false] at a
 . rcases a with rfl | rfl <;> decide
 . rcases a with rfl | rfl <;> decide
 . rcases a with rfl | rfl <;> decide
 . rcases a with rfl | rfl | rfl | rfl
   . decide
   . decide
   . exact d ⟨b.toNat / 16,by omega⟩
   . exact d ⟨b.toNat % 16,by omega⟩
 . subst a;omega
theorem IY {l:ab}:∀c∈dd l,32<=c.toNat∧c.toNat<=126:=fun c a=>by
 obtain⟨b,_,h⟩:=List.mem_flatMap.1 a;exact IR b c h
theorem IZ (b:UInt8):(dH b).length<=4:=by
 unfold dH;repeat' split
 all_goals simp
theorem mN:∀l:ab,(dd l).length<=4*l.length
 | []=>am _
 | b :: r => by
   have e:dd (b::r)=dH b++dd r:=by simp[dd]
   have:=IZ b;have:=mN r
   rw[e,aD,bF];omega
theorem I0 (l:ab)(b:UInt8):dd (l++[b])=dd l++dH b:=by simp[dd]
theorem Cy:∀(n:Nat) (l:ab),l.length<=n->∀b,fD l=M b->b.length<=l.length
 | _,[],_,b,h=>by cases h;exact am _
 | 0,_::_,h,_,_=>by simp at h
 | n + 1, c :: r, hn, b, h => by
   by_cases d:(dR (c::r)).2=0
   . rw[yW (by simp) d] at h;cases h
   . rw[ww (by simp) d] at h;have e:=CE (c::r);cases a:fD ((c::r).drop (dR (c::r)).2) with
     | none=>rw[a] at h;cases h
     | some x =>
       rw[a] at h;have:=Cy n _ (by rw[cQ];simp at hn ⊢;omega) x a;rw[cQ] at this;cases h;simp only[bF] at *;omega
theorem tQ {l:ab}(h:(bB 10 9 l).2=true):0<=(bB 10 9 l).1∧(bB 10 9 l).1<1000000000:=by
 have a:¬(l=[]∨(9:Int)<l.length):=fun e=>by unfold bB at h;rw[if_pos e] at h;cases h
 have ha:l.all (gy 10)=true:=by
  cases e:l.all (gy 10) with
  | true=>rfl
  | false=>unfold bB at h;rw[if_neg a,e] at h;cases h
 unfold bB;rw[if_neg a,if_pos ha];have c:∀(l:ab) (n:Int) (B:Nat),0<=n->n<10 ^ B->l.all (gy 10)=true->0<=l.foldl (fun n b=>n*10+aF b.toNat) n∧l.foldl (fun n b=>n*10+aF b.toNat) n<10 ^ (B+l.length):=by
  intro l;induction l with
  | nil=>intro n B f g _;exact⟨f,g⟩
  | cons b t j =>
    intro n B f g d;rw[re,hQ] at d;have i:=d.1;unfold gy at i;rw[hQ,bN,bN] at i;have e:(10:Int) ^ (B+1)=10 ^ B*10:=Int.pow_succ ..;have:=j (n*10+aF b.toNat) (B+1) (by omega) (by omega) d.2;simp only[rf,bF];rw[show B+(t.length+1)=B+1+t.length by omega];exact this
 have:=c l 0 0 (by omega) (by decide) ha;refine⟨this.1,Int.lt_of_lt_of_le this.2 ?_⟩;rw[eh];have k:l.length<=9:=by
  rcases eI 9 l.length with e | e
  . exact absurd (Or.inr (by omega)) a
  . exact e
 calc (10:Int) ^ l.length<=10 ^ 9:=by exact_mod_cast Nat.pow_le_pow_right (by decide) k
  _=1000000000:=by decide
structure xe where
 b:ab
 a:Nat
 d:Bool
 c:Nat
def E0:xe:=⟨[],0,F,0⟩
def xf (i c:Nat):xe:=⟨[],i,F,c⟩
def EZ (l:ab):Nat->ab->xe
 | _,[]=>E0
 | i, c :: t =>
   if c=13 then
    match t with
    | []=>E0
    | d::_=>if d=10 then ⟨l.take i,i+2,true,0⟩ else xf (i+2) 2
   else if c=10 then xf (i+1) 2
   else if ex c.toNat=F then xf (i+1) 3
   else if i=200 then xf (i+1) 4
   else EZ l (i+1) t
def bZ (l:ab):xe:=EZ l 0 l
structure ct where
 b:ab
 c:Bool
 a:Nat
def dv:ct:=⟨[],F,0⟩
def fq (s:ct)(c:UInt8):Nat :=
 if s.c=(c==10) then (if c=13∨c=10 then 0 else if ex c.toNat=F then 3 else if 200<=s.b.length then 4 else 0) else 2
def bj (s:ct)(c:UInt8):ct :=
 if s.a≠0 then s
 else if fq s c≠0 then { s with a:=fq s c }
 else if c=10 then ⟨[],F,0⟩
 else if c=13 then { s with c:=true }
 else { s with b:=s.b++[c] }
def cT (s:ct)(c:UInt8):ab:=if s.a=0∧fq s c=0∧c=10 then s.b else []
def fI (s:ct)(c:UInt8):Bool:=decide (s.a=0∧fq s c=0∧c=10)
structure qx (s:ct):Prop where
 d:∀b∈s.b,ex b.toNat=true
 c:s.b.length<=200
theorem qx.a:qx dv:=⟨fun b h=>by simp[dv] at h,by simp[dv]⟩
theorem xg {s:ct}{c:UInt8}(h:qx s):qx (bj s c):=by
 unfold bj;split
 . exact h
 . split
   . exact⟨h.d,h.c⟩
   . split
     . exact qx.a
     . split
       . exact⟨h.d,h.c⟩
       . rename_i _ a f k;have a:fq s c=0:=by omega
         unfold fq at a;split at a
         . split at a
           . rename_i g;rcases g with e | e <;> contradiction
           . split at a
             . omega
             . split at a
               . omega
               . rename_i _ _ i l;refine⟨fun b d=>?_,by simp;omega⟩;simp at d;rcases d with d | rfl
                 . exact h.d b d
                 . cases j:ex (b.toNat:Int)
                   . exact absurd j i
                   . rfl
         . omega
theorem EX {s:ct}{c:UInt8}(h:(bj s c).a≠0):fI s c=F:=by grind [bj,fI]
theorem Mw {s:ct}(c:UInt8)(h:s.a≠0):bj s c=s∧cT s c=[]∧fI s c=F:=by grind [bj,cT,fI]
def aV (c:UInt8)(l:ab):Nat:=l.findIdx (·==c)
theorem Jz (c:UInt8)(l:ab):aV c l<=l.length:=List.findIdx_le_length
theorem Di {c:UInt8}{l:ab}(h:aV c l<l.length):l[aV c l]=c:=by grind [aV]
theorem Dh {c:UInt8}{l:ab}{j:Nat}(h:j<aV c l)(a:j<l.length):l[j]≠c:=by grind [aV]
theorem Jx {c:UInt8}{l:ab}(h:∀j (a:j<l.length),l[j]≠c):aV c l=l.length:=by grind [aV]
theorem JA {c:UInt8}{l:ab}{k:Nat}(a:k<l.length)(h:l[k]=c)(b:∀j (d:j<k),l[j]≠c):aV c l=k:=by
 rcases Nat.lt_trichotomy (aV c l) k with g | g | g
 . exact absurd (Di (Nat.lt_trans g a)) (b _ g)
 . exact g
 . exact absurd h (Dh g a)
structure zu where
 b:ab
 c:ab
 a:Nat
def jg (c:Nat):zu:=⟨[],[],c⟩
def aZ (l:ab):zu :=
 if aV 58 l=l.length then jg 5
 else if fi (l.take (aV 58 l))=F then jg 6
 else if 40<aV 58 l then jg 4
 else if dP (l.drop (aV 58 l+1))=F then jg 3
 else ⟨l.take (aV 58 l),Lib.trimS (l.drop (aV 58 l+1)) bX,0⟩
def bO (n v:ab):ab×Nat :=
 if fi n=F then ([],6)
 else if 40<n.length∨200<n.length+2+v.length then ([],4)
 else if dP v=F∨Lib.trimS v bX≠v then ([],3)
 else (n++[58,32]++v,0)
structure yU where
 a:ab
 d:Nat
 c:Bool
 b:Nat
def fC (t:ab):Int×Bool:=bB 16 6 (Lib.trimS (t.take (aV 59 t)) bX)
def Ch:Nat->ab->Nat->yU
 | 0,_,_=>⟨[],0,F,0⟩
 | f + 1, l, n =>
   if (bZ l).c≠0∨(bZ l).d=F then ⟨[],(bZ l).a,F,(bZ l).c⟩
   else if (bZ l).b=[] then ⟨[],(bZ l).a,true,0⟩
   else if n=16 then ⟨[],(bZ l).a,F,8⟩
   else if (aZ (bZ l).b).a≠0 then ⟨[],(bZ l).a,F,(aZ (bZ l).b).a⟩
   else let r:=Ch f (l.drop (bZ l).a) (n+1);⟨r.a,(bZ l).a+r.d,r.c,r.b⟩
def Cg:Nat->ab->Nat->yU
 | 0,_,_=>⟨[],0,F,0⟩
 | f + 1, l, n =>
   if (bZ l).c≠0∨(bZ l).d=F then ⟨[],(bZ l).a,F,(bZ l).c⟩
   else if (fC (bZ l).b).2=F then ⟨[],(bZ l).a,F,7⟩
   else if 4000<n+(fC (bZ l).b).1.toNat then ⟨[],(bZ l).a,F,4⟩
   else if (fC (bZ l).b).1.toNat=0 then
    let r:=Ch (f+1) (l.drop (bZ l).a) 0;⟨r.a,(bZ l).a+r.d,r.c,r.b⟩
   else
    let k:=(fC (bZ l).b).1.toNat
    let d:=l.drop (bZ l).a
    if d.length<k then ⟨d,(bZ l).a+d.length,F,0⟩
    else
     let e:=d.drop k
     if (bZ e).c≠0∨(bZ e).d=F then ⟨d.take k,(bZ l).a+k+(bZ e).a,F,(bZ e).c⟩
     else if (bZ e).b≠[] then ⟨d.take k,(bZ l).a+k+(bZ e).a,F,5⟩
     else let r:=Cg f (e.drop (bZ e).a) (n+k);⟨d.take k++r.a,(bZ l).a+k+(bZ e).a+r.d,r.c,r.b⟩
def IM (l:ab):yU:=Cg (l.length+1) l 0
structure dy where
 b:Nat
 d:ct
 c:Nat
 f:Nat
 e:Nat
 a:Nat
def rM:dy:=⟨0,dv,0,0,0,0⟩
def fB (s:dy)(t:ab):dy :=
 if s.b=0 then
  (if (fC t).2 = F then { s with a := 7 }
   else if 4000<s.f+(fC t).1.toNat then { s with a:=4 }
   else if (fC t).1.toNat=0 then { s with b:=3 }
   else { s with b:=1,c:=(fC t).1.toNat,f:=s.f+(fC t).1.toNat })
 else if s.b=2 then (if t≠[] then { s with a:=5 } else { s with b:=0 })
 else if t=[] then { s with b:=4 }
 else if s.e=16 then { s with a:=8 }
 else if (aZ t).a≠0 then { s with a:=(aZ t).a }
 else { s with e:=s.e+1 }
def dc (s:dy)(c:UInt8):dy :=
 if s.a≠0 then s
 else if s.b=4 then { s with a:=18 }
 else if s.b=1 then { s with c:=s.c-1,b:=if s.c<=1 then 2 else 1 }
 else if (bj s.d c).a≠0 then { s with a:=(bj s.d c).a }
 else if fI s.d c=true then fB { s with d:=dv } (cT s.d c)
 else { s with d:=bj s.d c }
def iH (s:dy)(c:UInt8):ab:=if s.a=0∧s.b=1 then [c] else []
structure aN where
 c:Int
 a:Int
 d:ae
 b:ab
 e:Int
structure aB where
 l:List aN
 a:Int
def fe:aB:=⟨[],0⟩
def cF:List aN->Nat
 | []=>0
 | u::t=>u.b.length+cF t
def cE:List aN->Int->Option Nat
 | [],_=>U
 | u::t,id=>if u.c=id then M 0 else (cE t id).map (·+1)
def cO (s:aB)(id:Int)(f:Nat->aN->aB×Nat):aB×Nat :=
 match cE s.l id with
 | none=>(s,10)
 | some i => match s.l[i]? with
   | none=>(s,10)
   | some u=>f i u
def fb (s:aB)(size:Int)(m:ae):aB×Int×Nat :=
 if size < -1 then (s,0,1) else if 2000<size∨100<m.size then (s,0,4) else if dP m.data.toList=F∨Lib.trimS m.data.toList bX≠m.data.toList then (s,0,3) else if 12<=s.l.length then (s,0,8)
 else (⟨s.l++[⟨s.a+1,size,m,[],0⟩],s.a+1⟩,s.a+1,0)
def iM (s:aB)(id off:Int)(b:ab):aB×Nat:=cO s id fun i u =>
 if u.e≠0 then (s,19) else if off≠u.b.length then (s,17) else if 2000<u.b.length+b.length∨(0<=u.a∧u.a<u.b.length+b.length) then (s,4) else if 6000<cF s.l+b.length then (s,16)
 else (⟨s.l.set i { u with b:=u.b++b },s.a⟩,0)
def lC (s:aB)(id size:Int):aB×Nat:=cO s id fun i u =>
 if 0<=u.a then (s,18) else if size<0 then (s,1) else if 2000<size∨size<u.b.length then (s,4)
 else (⟨s.l.set i { u with a:=size },s.a⟩,0)
def mt (s:aB)(id:Int):aB×Nat:=cO s id fun i _=>(⟨s.l.eraseIdx i,s.a⟩,0)
def kj (s:aB)(id:Int):aB×Nat:=cO s id fun i u =>
 if u.e≠0 then (s,19) else if u.a≠u.b.length then (s,14) else (⟨s.l.set i { u with e:=1 },s.a⟩,0)
def lD (s:aB)(id:Int):aB×Nat:=cO s id fun i u =>
 if u.e≠1 then (s,19) else (⟨s.l.set i { u with e:=2 },s.a⟩,0)
structure GI (last:Int)(u:aN):Prop where
 f:1<=u.c
 e:u.c<=last
 c:-1<=u.a
 d:u.a<=2000
 a:u.b.length<=2000
 i:0<=u.a->u.b.length<=u.a
 g:0<=u.e
 h:u.e<=2
 j:u.e≠0->u.a=u.b.length
 b:u.d.size<=100
structure cM (s:aB):Prop where
 b:s.l.length<=12
 d:cF s.l<=6000
 c:0<=s.a
 g:(s.l.map (·.c)).Pairwise (·<·)
 a:∀u∈s.l,GI s.a u
theorem cM.j:cM fe:=⟨by simp[fe],by simp[fe,cF],by simp[fe],by simp[fe],fun u h=>by simp[fe] at h⟩
theorem Be:∀a b:List aN,cF (a++b)=cF a+cF b:=by intro l;induction l <;> grind [cF]
theorem GF:∀(l:List aN) (i:Nat) (u v:aN),l[i]? = M u->cF (l.set i v)+u.b.length=cF l+v.b.length
 | [],i,u,v,h=>by simp at h
 | x :: t, 0, u, v, h => by
   have h:x=u:=by simpa using h
   subst h;rw[oX,cF,cF];omega
 | x :: t, i + 1, u, v, h => by
   have:=GF t i u v (by simpa using h);rw[List.set_cons_succ,cF,cF];omega
theorem GB:∀(l:List aN) (i:Nat),cF (l.eraseIdx i)<=cF l
 | [],i=>by simp[cF]
 | x::t,0=>by rw[List.eraseIdx_cons_zero,cF];omega
 | x::t,i+1=>by have:=GB t i;rw[List.eraseIdx_cons_succ,cF,cF];omega
theorem xD:∀(l:List aN) (a:Int) (i:Nat),cE l a=M i->∃u,l[i]? = M u∧u.c=a
 | [],a,i,h=>by cases h
 | x :: t, a, i, h => by
   rw[cE] at h;split at h
   . rename_i c;injection h with h;subst h;exact⟨x,rfl,c⟩
   . cases b:cE t a with
     | none=>rw[b] at h;cases h
     | some j =>
       rw[b] at h;injection h with h;obtain⟨u,d,e⟩:=xD t a j b;subst h;exact⟨u,by simpa using d,e⟩
theorem cM.f {s:aB}(h:cM s){i:Nat}{u v:aN}(c:s.l[i]? = M u)(b:v.c=u.c)(d:GI s.a v)(f:cF s.l+v.b.length<=6000+u.b.length):cM ⟨s.l.set i v,s.a⟩:=by
 refine⟨by simpa using h.b,?_,h.c,?_,fun x a=>?_⟩
 . have:=GF s.l i u v c;show cF (s.l.set i v)<=6000;omega
 . have:(s.l.set i v).map (·.c)=s.l.map (·.c):=by
    rw[List.map_set,b];refine List.ext_getElem? fun k=>?_;rw[List.getElem?_set];split
    . rename_i e;subst e;split
      . rw[List.getElem?_map,c];rfl
      . rename_i g;rw[xR (by omega)]
    . rfl
   show((s.l.set i v).map (·.c)).Pairwise (·<·);rw[this];exact h.g
 . rcases List.mem_or_eq_of_mem_set a with a | a
   . exact h.a x a
   . subst a;exact d
theorem cM.e {s:aB}(h:cM s){a:Int}{f:Nat->aN->aB×Nat}(b:∀i u,s.l[i]? = M u->cM (f i u).1):cM (cO s a f).1:=by grind [cO]
theorem cM.jL {s:aB}(h:cM s)(size:Int)(m:ae):cM (fb s size m).1:=by
 unfold fb;split
 . exact h
 . split
   . exact h
   . split
     . exact h
     . split
       . exact h
       . rename_i f g _ i;have j:=h.c;refine⟨by simp;omega,?_,by show 0<=s.a+1;omega,?_,fun u c=>?_⟩
         . show cF (s.l++[_])<=6000;rw[Be];have:=h.d;simp[cF];omega
         . show((s.l++[(⟨s.a+1,size,m,[],0⟩:aN)]).map (·.c)).Pairwise (·<·);rw[lM,List.pairwise_append];refine⟨h.g,by simp,fun a ha b d=>?_⟩;obtain⟨u,c,rfl⟩:=oh.1 ha;have:=(h.a u c).e;simp at d;subst d;show u.c<s.a+1;omega
         . rcases eJ.1 c with c | c
           . have:=h.a u c;exact⟨this.f,by have:=this.e;show u.c<=s.a+1;omega,this.c,this.d,this.a,this.i,this.g,this.h,this.j,this.b⟩
           . rw[cW.1 c];exact⟨by show 1<=s.a+1;omega,pO _,by show -1<=size;omega,by show size<=2000;omega,by simp,fun e=>by simpa using e,by simp,by simp,fun e=>absurd rfl e,by show m.size<=100;omega⟩
theorem cM.q {s:aB}(h:cM s)(f c:Int)(b:ab):cM (iM s f c b).1:=by
 refine h.e fun i u d=>?_;have a:=h.a u (nD d);have j:=h.d;split
 . exact h
 . split
   . exact h
   . split
     . exact h
     . split
       . exact h
       . rename_i g k l m;refine h.f d rfl ⟨a.f,a.e,a.c,a.d,by simp;omega,fun e=>?_,a.g,a.h,fun e=>absurd e (by simpa using g),a.b⟩ (by simp;omega);have n:0<=u.a:=e;simp only[aD];omega
theorem cM.y {s:aB}(h:cM s)(c size:Int):cM (lC s c size).1:=by
 refine h.e fun i u b=>?_;have a:=h.a u (nD b);have d:=h.d;split
 . exact h
 . split
   . exact h
   . split
     . exact h
     . rename_i f g j;refine h.f b rfl ⟨a.f,a.e,by show -1<=size;omega,by show size<=2000;omega,a.a,fun _=>by show(u.b.length:Int)<=size;omega,a.g,a.h,fun e=>?_,a.b⟩ (by show cF s.l+u.b.length<=_;omega);have:=a.j e;omega
theorem cM.B {s:aB}(h:cM s)(a:Int):cM (mt s a).1:=by
 refine h.e fun i u c=>?_;refine⟨co (List.length_eraseIdx_le ..) h.b,co (GB s.l i) h.d,h.c,?_,fun x b=>h.a x (List.mem_of_mem_eraseIdx b)⟩;show((s.l.eraseIdx i).map (·.c)).Pairwise (·<·);exact h.g.sublist ((List.eraseIdx_sublist s.l i).map _)
theorem cM.r {s:aB}(h:cM s)(c:Int):cM (kj s c).1:=by
 refine h.e fun i u b=>?_;have a:=h.a u (nD b);have e:=h.d;split
 . exact h
 . split
   . exact h
   . rename_i f d;exact h.f b rfl ⟨a.f,a.e,a.c,a.d,a.a,a.i,by simp,by simp,fun _=>by simpa using d,a.b⟩ (by show cF s.l+u.b.length<=_;omega)
theorem cM.E {s:aB}(h:cM s)(d:Int):cM (lD s d).1:=by
 refine h.e fun i u c=>?_;have a:=h.a u (nD c);have f:=h.d;split
 . exact h
 . rename_i e;have b:u.e=1:=by simpa using e
   exact h.f c rfl ⟨a.f,a.e,a.c,a.d,a.a,a.i,by simp,by simp,fun _=>a.j (by rw[b];decide),a.b⟩ (by show cF s.l+u.b.length<=_;omega)
theorem GC (l:List aN)(k:Nat)(h:k<l.length):cF (l.take (k+1))=cF (l.take k)+l[k].b.length:=by
 rw[fR h,Be];simp[cF]
theorem GH (l:List aN)(k:Nat):cF (l.take k)<=cF l:=by
 conv=>rhs;rw[<-iZ k l,Be]
 omega
theorem Po (l:List aN)(k:Nat)(h:k<l.length):l[k].b.length<=cF l:=by
 have a:=GC l k h;have b:=GH l (k+1);omega
theorem GG:∀(l:List aN) (a:Int) (k:Nat) (h:k<l.length),l[k].c=a->(∀u∈l.take k,u.c≠a)->cE l a=M k
 | x::t,a,0,_,e,_=>by rw[cE,if_pos (by simpa using e)]
 | x :: t, a, k + 1, h, e, hn => by
   rw[cE,if_neg (hn x (by simp)),GG t a k (by simpa using h) (by simpa using e) (fun u b=>hn u (by simp[b]))];rfl
theorem Pq:∀(l:List aN) (a:Int),(∀u∈l,u.c≠a)->cE l a=U:=by intro l;induction l <;> grind [cE]
theorem mu {l:List aN}{a:Int}{i:Nat}(h:cE l a=M i):i<l.length:=by grind [cE,xD]
theorem qG {s:aB}{a:Int}{f:Nat->aN->aB×Nat}(h:cE s.l a=U):cO s a f=(s,10):=by
 unfold cO;rw[h]
theorem qH {s:aB}{a:Int}{f:Nat->aN->aB×Nat}{i:Nat}(h:cE s.l a=M i):cO s a f=f i (s.l[i]'(mu h)):=by grind [cE,cO]
def pK (l:List aN)(id:Int):Int:=match cE l id with
 | none=>-1
 | some i=>i
theorem qI {l:List aN}{a:Int}(h:cE l a=U):pK l a=-1:=by unfold pK;rw[h]
theorem qJ {l:List aN}{a:Int}{i:Nat}(h:cE l a=M i):pK l a=i:=by unfold pK;rw[h]
theorem Pl (s:aB)(size:Int)(m:ae):(fb s size m).1.a<=s.a+1:=by
 unfold fb;split
 . show s.a<=_;omega
 . split
   . show s.a<=_;omega
   . split
     . show s.a<=_;omega
     . split
       . show s.a<=_;omega
       . exact pO _
theorem uT (s:aB)(a:Int)(f:Nat->aN->aB×Nat)(b:∀i u,(f i u).1.a=s.a):(cO s a f).1.a=s.a:=by grind [cO]
theorem Gz (s:aB)(c a:Int)(b:ab):(iM s c a b).1.a=s.a:=by grind [iM,uT]
theorem GJ (s:aB)(a size:Int):(lC s a size).1.a=s.a:=uT s a _ fun i u=>by
 split
 . rfl
 . split
   . rfl
   . split <;> rfl
theorem GD (s:aB)(a:Int):(mt s a).1.a=s.a:=uT s a _ fun _ _=>rfl
theorem GA (s:aB)(a:Int):(kj s a).1.a=s.a:=uT s a _ fun i u=>by
 split
 . rfl
 . split <;> rfl
theorem GE (s:aB)(a:Int):(lD s a).1.a=s.a:=uT s a _ fun i u=>by
 split <;> rfl
def km (s:aB)(off:Int)(b:ab)(i:Nat)(u:aN):aB×Nat :=
 if u.e≠0 then (s,19) else if off≠u.b.length then (s,17) else if 2000<u.b.length+b.length∨(0<=u.a∧u.a<u.b.length+b.length) then (s,4) else if 6000<cF s.l+b.length then (s,16)
 else (⟨s.l.set i { u with b:=u.b++b },s.a⟩,0)
def kl (s:aB)(size:Int)(i:Nat)(u:aN):aB×Nat :=
 if 0<=u.a then (s,18) else if size<0 then (s,1) else if 2000<size∨size<u.b.length then (s,4)
 else (⟨s.l.set i { u with a:=size },s.a⟩,0)
def uS (s:aB)(i:Nat)(_:aN):aB×Nat:=(⟨s.l.eraseIdx i,s.a⟩,0)
def oT (s:aB)(i:Nat)(u:aN):aB×Nat :=
 if u.e≠0 then (s,19) else if u.a≠u.b.length then (s,14) else (⟨s.l.set i { u with e:=1 },s.a⟩,0)
def qF (s:aB)(i:Nat)(u:aN):aB×Nat :=
 if u.e≠1 then (s,19) else (⟨s.l.set i { u with e:=2 },s.a⟩,0)
theorem Bd (s:aB)(c a:Int)(b:ab):iM s c a b=cO s c (km s a b):=rfl
theorem Pm (s:aB)(a size:Int):lC s a size=cO s a (kl s size):=rfl
theorem Pr (s:aB)(a:Int):mt s a=cO s a (uS s):=rfl
theorem Pn (s:aB)(a:Int):kj s a=cO s a (oT s):=rfl
theorem Ps (s:aB)(a:Int):lD s a=cO s a (qF s):=rfl
def eb (c:UInt8):Bool:=c==32||c==9
def dC (c:UInt8):Bool:=lt c.toNat
def fQ (p:UInt8->Bool)(l:ab)(i:Nat):Nat:=((l.drop i).takeWhile p).length
theorem Fr {p:UInt8->Bool}{l:ab}{i:Nat}(h:i<l.length)(a:p l[i]=true):fQ p l i=1+fQ p l (i+1):=by
 unfold fQ;rw[hJ h,vu,a];simp only[if_true,bF];omega
theorem Fj {p:UInt8->Bool}{l:ab}{i:Nat}(h:i<l.length)(a:p l[i]=F):fQ p l i=0:=by
 unfold fQ;rw[hJ h,vu,a];rfl
theorem Fw (p:UInt8->Bool){l:ab}{i:Nat}(h:l.length<=i):fQ p l i=0:=by
 unfold fQ;rw[oV h];rfl
theorem Fu (p:UInt8->Bool)(l:ab)(i:Nat)(h:i<=l.length):i+fQ p l i<=l.length:=by
 unfold fQ;have:=(List.takeWhile_prefix (l:=l.drop i) p).length_le;rw[cQ] at this;omega
def ce (l:ab)(i:Nat):Nat:=i+fQ eb l i
def aG (l:ab)(i:Nat):Nat:=fQ dC l i
theorem Fk (p:UInt8->Bool)(l:ab)(i:Nat):l.drop (i+fQ p l i)=(l.drop i).dropWhile p:=by
 unfold fQ;rw[<-rg];generalize l.drop i=t;induction t with
 | nil=>rfl
 | cons a t b =>
   rw[vu,vq];cases p a
   . rfl
   . simpa using b
theorem NL (p:UInt8->Bool)(l:ab)(i:Nat):(l.drop i).take (fQ p l i)=(l.drop i).takeWhile p:=by
 unfold fQ;generalize l.drop i=t;induction t with
 | nil=>rfl
 | cons a t b =>
   rw[vu];cases p a
   . rfl
   . simpa using b
abbrev cU:=ab×ab
def fa:ab->ab->Option (ab×ab)
 | _,[]=>U
 | acc,c::t=>if c=34 then M (acc,t) else if c=92 then (match t with
  | []=>U
  | d::t'=>fa (acc++[d]) t') else fa (acc++[c]) t
theorem AJ (a:ab):fa a []=U:=by unfold fa;rfl
theorem Fs (a t:ab):fa a (34::t)=M (a,t):=by unfold fa;rw[if_pos rfl]
theorem Fx (a:ab):fa a [92]=U:=by unfold fa;rw[if_neg (by decide),if_pos rfl]
theorem Fl (a:ab)(d:UInt8)(t:ab):fa a (92::d::t)=fa (a++[d]) t:=by rw[fa,if_neg (by decide),if_pos rfl]
theorem Fo (a:ab)(c:UInt8)(t:ab)(b:c≠34)(d:c≠92):fa a (c::t)=fa (a++[c]) t:=by rw[fa.eq_def];simp only[];rw[if_neg b,if_neg d]
theorem Ff (n:Nat):∀(a t v r:ab),t.length<=n->fa a t=M (v,r)->r.length<t.length∧v.length<=a.length+t.length:=by
 induction n with
 | zero =>
   intro a t v r h e;obtain rfl:t=[]:=iz (by omega);rw[AJ] at e;cases e
 | succ n b =>
   intro a t v r h e;cases t with
   | nil=>rw[AJ] at e;cases e
   | cons c t =>
     by_cases f:c=34
     . subst f;rw[Fs] at e;injection e with e;injection e with i j;subst i;subst j;simp
     . by_cases g:c=92
       . subst g;cases t with
         | nil=>rw[Fx] at e;cases e
         | cons d t =>
           rw[Fl] at e;have:=b _ _ _ _ (by simp at h ⊢;omega) e;simp at this ⊢;omega
       . rw[Fo _ _ _ f g] at e;have:=b _ _ _ _ (by simp at h ⊢;omega) e;simp at this ⊢;omega
def kJ (r:ab):Nat ⊕ (ab×ab) :=
 if r.head? = M 34 then (match fa [] r.tail with
  | none=>.inl 14
  | some x=>.inr x)
 else if r.takeWhile dC=[] then .inl 5 else .inr (r.takeWhile dC,r.dropWhile dC)
def kf (r:ab):Nat ⊕ (cU×ab) :=
 if r.head? = M 59 then
  let r2:=r.tail.dropWhile eb
  if r2.takeWhile dC=[] then .inl 5
  else if (r2.dropWhile dC).head? = M 61 then (match kJ (r2.dropWhile dC).tail with
   | .inl c=>.inl c
   | .inr x=>.inr ((aY (r2.takeWhile dC),x.1),x.2))
  else .inl 5
 else .inl 5
def jl:Nat->ab->List cU->Nat ⊕ List cU
 | 0,_,acc=>.inr acc
 | n + 1, r, acc =>
   if r.dropWhile eb=[] then .inr acc
   else match kf (r.dropWhile eb) with
    | .inl c=>.inl c
    | .inr x=>if acc.any (fun q=>q.1==x.1.1) then .inl 9 else if acc.length=8 then .inl 8 else jl n x.2 (acc++[x.1])
def qz (l:ab):Nat ⊕ (ab×ab) :=
 let r:=l.dropWhile eb
 if r.takeWhile dC=[] then .inl 5
 else if (r.dropWhile dC).head? = M 47 then
  (if (r.dropWhile dC).tail.takeWhile dC = [] then .inl 5
   else .inr (aY (r.takeWhile dC)++[47]++aY ((r.dropWhile dC).tail.takeWhile dC),(r.dropWhile dC).tail.dropWhile dC))
 else .inr (aY (r.takeWhile dC),r.dropWhile dC)
def kI (n:Nat)(wd r:ab)(acc:List cU):Nat ⊕ (ab×List cU):=match jl n r acc with
 | .inl c=>.inl c
 | .inr ps=>.inr (wd,ps)
def ee (l:ab):Nat ⊕ (ab×List cU) :=
 if dP l=F then .inl 3
 else match qz l with
  | .inl c=>.inl c
  | .inr x=>kI (l.length+1) x.1 x.2 []
theorem AK (l:ab)(i:Nat):(l.drop i).dropWhile eb=l.drop (ce l i):=(Fk eb l i).symm
theorem AG (l:ab)(i:Nat):(l.drop i).dropWhile dC=l.drop (i+aG l i):=(Fk dC l i).symm
theorem xi (l:ab)(i:Nat):(l.drop i).takeWhile dC=(l.drop i).take (aG l i):=(NL dC l i).symm
theorem NM (l:ab)(i:Nat):(l.drop i).takeWhile dC=[]<->aG l i=0:=by
 unfold aG fQ;constructor
 . intro h;rw[h];rfl
 . intro h;exact iz h
theorem AH (l:ab)(i:Nat):((l.drop i).take (aG l i)=[])=(aG l i=0):=by
 rw[<-xi];exact propext (NM l i)
theorem xj (l:ab)(i:Nat)(h:i<=l.length):ce l i<=l.length:=Fu eb l i h
theorem Fi (l:ab)(i:Nat):i<=ce l i:=dT _ _
theorem uG (l:ab)(i:Nat)(h:i<=l.length):i+aG l i<=l.length:=Fu dC l i h
theorem NT (l:ab)(i:Nat):kJ (l.drop i) =
 if l[i]? = M 34 then (match fa [] (l.drop (i+1)) with
  | none=>.inl 14
  | some x=>.inr x)
 else if aG l i=0 then .inl 5 else .inr ((l.drop i).take (aG l i),l.drop (i+aG l i)):=by
 unfold kJ;simp only[List.head?_drop,List.tail_drop,xi,AG,AH]
theorem NU (l:ab)(i:Nat):kf (l.drop i) =
 if l[i]? = M 59 then
  (if aG l (ce l (i + 1)) = 0 then .inl 5
   else if l[ce l (i+1)+aG l (ce l (i+1))]? = M 61 then (match kJ (l.drop (ce l (i+1)+aG l (ce l (i+1))+1)) with
    | .inl c=>.inl c
    | .inr x=>.inr ((aY ((l.drop (ce l (i+1))).take (aG l (ce l (i+1)))),x.1),x.2))
   else .inl 5)
 else .inl 5:=by
 unfold kf;simp only[List.head?_drop,List.tail_drop,AK,AG,xi,AH]
theorem NS (l:ab)(n i:Nat)(a:List cU)(b:i<=l.length):jl (n+1) (l.drop i) a =
 if ce l i=l.length then .inr a
 else match kf (l.drop (ce l i)) with
  | .inl c=>.inl c
  | .inr x=>if a.any (fun q=>q.1==x.1.1) then .inl 9 else if a.length=8 then .inl 8 else jl n x.2 (a++[x.1]):=by
 have d:=xj l i b;rw[jl,AK];by_cases h:ce l i=l.length
 . rw[if_pos h,if_pos (by rw[h,List.drop_length])]
 . rw[if_neg h,if_neg (fun e=>h (by have:=lL List.length e;rw[cQ] at this;simp at this;omega))]
theorem NV (l:ab):qz l =
 if aG l (ce l 0)=0 then .inl 5
 else if l[ce l 0+aG l (ce l 0)]? = M 47 then
  (if aG l (ce l 0 + aG l (ce l 0) + 1) = 0 then .inl 5
   else .inr (aY ((l.drop (ce l 0)).take (aG l (ce l 0)))++[47]++aY ((l.drop (ce l 0+aG l (ce l 0)+1)).take (aG l (ce l 0+aG l (ce l 0)+1))),l.drop (ce l 0+aG l (ce l 0)+1+aG l (ce l 0+aG l (ce l 0)+1))))
 else .inr (aY ((l.drop (ce l 0)).take (aG l (ce l 0))),l.drop (ce l 0+aG l (ce l 0))):=by
 unfold qz;have e:l.dropWhile eb=l.drop (ce l 0):=by have:=AK l 0;rwa[List.drop_zero] at this
 simp only[e,AG,List.head?_drop,List.tail_drop,xi,AH]
theorem NN (l:ab)(c:dP l=true)(a b:Nat)(d:ce l 0=a)(e:aG l a=b):ee l =
 if b=0 then .inl 5
 else if l[a+b]? = M 47 then
  (if aG l (a + b + 1) = 0 then .inl 5
   else kI (l.length+1) (aY ((l.drop a).take b)++[47]++aY ((l.drop (a+b+1)).take (aG l (a+b+1)))) (l.drop (a+b+1+aG l (a+b+1))) [])
 else kI (l.length+1) (aY ((l.drop a).take b)) (l.drop (a+b)) []:=by grind [dP,ce,aG,ee,kI,aY,NV]
theorem NW (l:ab)(n i:Nat)(wd:ab)(a:List cU)(e:i<=l.length):kI (n+1) wd (l.drop i) a =
 if ce l i=l.length then .inr (wd,a)
 else match kf (l.drop (ce l i)) with
  | .inl c=>.inl c
  | .inr x=>if a.any (fun q=>q.1==x.1.1) then .inl 9 else if a.length=8 then .inl 8 else kI n wd x.2 (a++[x.1]):=by
 unfold kI;rw[NS l n i a e];by_cases h:ce l i=l.length
 . rw[if_pos h,if_pos h]
 . rw[if_neg h,if_neg h];cases kf (l.drop (ce l i)) with
   | inl c=>rfl
   | inr x =>
     simp only[];by_cases b:(a.any fun q=>q.1==x.1.1)=true
     . rw[if_pos b,if_pos b]
     . rw[if_neg b,if_neg b];by_cases d:a.length=8
       . rw[if_pos d,if_pos d]
       . rw[if_neg d,if_neg d]
def mp:List (Int×ab):=[(200,[79,75]),(201,[67,114,101,97,116,101,100]),(204,[78,111,32,67,111,110,116,101,110,116]),(400,[66,97,100,32,82,101,113,117,101,115,116]),(404,[78,111,116,32,70,111,117,110,100]),(405,[77,101,116,104,111,100,32,78,111,116,32,65,108,108,111,119,101,100]),(409,[67,111,110,102,108,105,99,116]),(412,[80,114,101,99,111,110,100,105,116,105,111,110,32,70,97,105,108,101,100]),(413,[67,111,110,116,101,110,116,32,84,111,111,32,76,97,114,103,101]),(415,[85,110,115,117,112,112,111,114,116,101,100,32,77,101,100,105,97,32,84,121,112,101]),(507,[73,110,115,117,102,102,105,99,105,101,110,116,32,83,116,111,114,97,103,101])]
def uJ:List (Int×ab)->Int->ab
 | [],_=>[]
 | p::t,n=>if p.1=n then p.2 else uJ t n
def gS (n:Int):ab:=uJ mp n
theorem AV:∀(l:List (Int×ab)) (n:Int),(∀p∈l,p.1≠n)->uJ l n=[]:=by intro l;induction l <;> grind [uJ]
theorem OC {n:Int}(h:gS n≠[]):200<=n∧n<=507:=by
 by_cases c:∀p∈mp,p.1≠n
 . exact absurd (AV mp n c) h
 . have:∃p,p∈mp∧p.1=n:=by
    apply sJ;intro d;exact c (fun p b e=>d ⟨p,b,e⟩)
   obtain⟨p,b,rfl⟩:=this;have a:∀q∈mp,200<=q.1∧q.1<=507:=by decide
   exact a p b
theorem FV (n:Int):(gS n).length<=22:=by
 by_cases c:∀p∈mp,p.1≠n
 . rw[gS,AV mp n c];decide
 . have:∃p,p∈mp∧p.1=n:=by
    apply sJ;intro d;exact c (fun p b e=>d ⟨p,b,e⟩)
   obtain⟨p,b,rfl⟩:=this;have a:∀q∈mp,(uJ mp q.1).length<=22:=by decide
   exact a p b
def jn (p:ae×ae):ab:=(bO p.1.data.toList p.2.data.toList).1++[13,10]
def jJ:aC->Nat
 | []=>0
 | p::t=>if (bO p.1.data.toList p.2.data.toList).2≠0 then (bO p.1.data.toList p.2.data.toList).2 else jJ t
theorem OA:∀(l:aC),(∀p∈l,(bO p.1.data.toList p.2.data.toList).2=0)->jJ l=0:=by intro l;induction l <;> grind [bO,jJ]
theorem FW:∀(l:aC) (i:Nat) (a:i<l.length),(∀p∈l.take i,(bO p.1.data.toList p.2.data.toList).2=0)->(bO l[i].1.data.toList l[i].2.data.toList).2≠0->jJ l=(bO l[i].1.data.toList l[i].2.data.toList).2
 | p::t,0,_,_,hc=>by rw[jJ,if_pos (by simpa using hc)];rfl
 | p :: t, i + 1, a, hz, hc => by
   rw[jJ,if_neg (by simpa using hz p (by simp)),FW t i (by simpa using a) (fun q b=>hz q (by simp[b])) (by simpa using hc)];rfl
def FX:ab:=[72,84,84,80,47,49,46,49,32]
def xt:ab:=[67,111,110,116,101,110,116,45,76,101,110,103,116,104,58,32]
def kh (st:Int):ab:=FX++bw 8 st.toNat++[32]++gS st++[13,10]
def se (st:Int)(l:aC)(nv:Nat)(body:ab):ab×Nat :=
 if gS st=[] then ([],11) else if 16<=l.length then ([],8) else if nv≠0 then ([],12) else if jJ l≠0 then ([],jJ l) else (kh st++l.flatMap jn++xt++bw 8 body.length++[13,10,13,10]++body,0)
def jd (s:dy)(c:UInt8):Bool:=decide (s.a=0∧s.b≠4∧(dc s c).a=0∧(dc s c).b=4)
theorem IJ {s:dy}(h:s.a≠0)(c:UInt8):dc s c=s:=by unfold dc;rw[if_pos h]
def fj (s:dy):Nat:=if s.a≠0 then s.a else if s.b=4 then 18 else 0
def ib (s:dy):Nat:=if s.b=0 then 0 else if s.b=3 then 2 else 1
def jX (s:dy):Nat:=if s.b=1 then s.c else 0
structure jW (s:dy):Prop where
 e:s.b<=4
 d:qx s.d
 g:s.d.a=0
 a:s.b=1->0<s.c
 b:s.c<=4000
 f:s.f<=4000
 c:s.e<=16
theorem jW.r:jW rM:=⟨ax _,qx.a,rfl,fun h=>(by cases h),ax _,ax _,ax _⟩
theorem kz {s:dy}:fj s=0<->s.a=0∧s.b≠4:=by grind [fj]
theorem jW.j {s:dy}(h:jW s)(t:ab):jW (fB s t):=by grind [jW,fB]
theorem jW.q {s:dy}(h:jW s)(c:UInt8):jW (dc s c):=by
 have l:=h;obtain⟨f,g,k,i,j,b,d⟩:=h;unfold dc;split
 . exact l
 . split
   . exact⟨f,g,k,i,j,b,d⟩
   . split
     . refine⟨?_,g,k,fun e=>?_,(by show s.c-1<=4000;omega),b,d⟩
       . show(if s.c<=1 then 2 else 1)<=4;split <;> omega
       . have m:(if s.c<=1 then 2 else 1)=1:=e;show 0<s.c-1;split at m <;> omega
     . split
       . exact⟨f,g,k,i,j,b,d⟩
       . split
         . exact jW.j (s:={ s with d:=dv }) ⟨f,qx.a,rfl,i,j,b,d⟩ _
         . exact⟨f,xg g,(by rename_i a _;show(bj s.d c).a=0;omega),i,j,b,d⟩
theorem Cf {t:ab}(h:∀b∈t,bX.contains b=F):Lib.trimS t bX=t:=by
 have c:∀u:ab,(∀b∈u,bX.contains b=F)->u.dropWhile (bX.contains ·)=u:=by
  intro u d;cases u with
  | nil=>rfl
  | cons a v=>rw[vq,d a (lO ..)];rfl
 unfold Lib.trimS Lib.trimLeftS Lib.trimRightS;rw[c t.reverse (fun b e=>h b (List.mem_reverse.1 e)),List.reverse_reverse,c t h]
theorem IL (s:dy)(c:UInt8):(iH s c).length<=1:=by unfold iH;split <;> simp
open Go.RowKit
theorem yA (l:ab):(Lib.trimS l bX).length<=l.length:=by
 unfold Lib.trimS Lib.trimLeftS Lib.trimRightS;have a:=(sE (l:=(l.reverse.dropWhile (bX.contains ·)).reverse) (bX.contains ·)).length_le;have b:=(sE (l:=l.reverse) (bX.contains ·)).length_le;simp only[List.length_reverse] at a b;omega
theorem Dg (l:ab)(c:UInt8):(Lib.indexByte l c=-1∧aV c l=l.length)∨(Lib.indexByte l c=(aV c l:Int)∧aV c l<l.length):=by
 by_cases h:Lib.indexByte l c=-1
 . refine Or.inl ⟨h,Jx fun j a e=>?_⟩;exact Lib.indexByte_none h j (by rw[iA a,e])
 . have f:=Lib.indexByte_ge l c;obtain⟨o,d⟩:∃o:Nat,Lib.indexByte l c=o:=⟨(Lib.indexByte l c).toNat,by omega⟩;obtain⟨g,i⟩:=Lib.indexByte_some d;obtain⟨b,k⟩:=fw.1 g;have:=JA b k fun j a e=>i j a (by rw[iA (by omega),e]);refine Or.inr ⟨by rw[d,this],by omega⟩
theorem zv (p q:UInt8->Bool)(h:∀b,q b=true->p b=true):∀l:ab,(l.dropWhile q).all p=l.all p
 | []=>rfl
 | a :: t => by
   rw[vq];cases c:q a
   . rfl
   . rw[if_pos rfl,zv p q h t,re,h a c];rfl
theorem Dj (b:UInt8)(h:bX.contains b=true):ex b.toNat=true:=by
 have a:=b.toNat_lt;have:=(show ∀n:Fin 256,bX.contains n.val.toUInt8=true->ex ((n.val.toUInt8).toNat:Int)=true by decide +kernel) ⟨b.toNat,a⟩;have e:b.toNat.toUInt8=b:=by simp
 simp only[e] at this;exact this h
theorem Ju (l:ab):dP (Lib.trimS l bX)=dP l:=by
 unfold dP Lib.trimS Lib.trimLeftS Lib.trimRightS;rw[zv _ _ Dj,List.all_reverse,zv _ _ Dj,List.all_reverse]
theorem Jy (l:ab):aZ l=if aV 58 l=l.length then jg 5
 else if fi (l.take (aV 58 l))=F then jg 6
 else if 40<aV 58 l then jg 4
 else if dP (Lib.trimS (l.drop (aV 58 l+1)) bX)=F then jg 3
 else ⟨l.take (aV 58 l),Lib.trimS (l.drop (aV 58 l+1)) bX,0⟩:=by
 unfold aZ;rw[Ju]
structure De (n v:ab):Prop where
 c:fi n=true
 b:n.length<=40
 a:dP v=true
 d:Lib.trimS v bX=v
theorem Jv {n v:ab}(h:(bO n v).2=0):De n v∧n.length+2+v.length<=200:=by grind [bO,De]
theorem Df (l:ab):(aZ l).b.length<=l.length∧(aZ l).c.length<=l.length:=by
 unfold aZ;split
 . simp[jg]
 . split
   . simp[jg]
   . split
     . simp[jg]
     . split
       . simp[jg]
       . refine⟨List.length_take_le' ..,?_⟩;have:=yA (l.drop (aV 58 l+1));rw[cQ] at this;show(Lib.trimS (l.drop (aV 58 l+1)) bX).length<=l.length;omega
theorem Dd (n v:ab):(bO n v).1.length<=n.length+2+v.length:=by grind [bO]
theorem Fp (p:UInt8->Bool)(l:ab):(l.takeWhile p).length<=l.length:=(List.takeWhile_prefix (l:=l) p).length_le
theorem uF (p:UInt8->Bool)(l:ab):(l.dropWhile p).length<=l.length:=(sE (l:=l) p).length_le
theorem Ft (p:UInt8->Bool)(l:ab):(l.takeWhile p).length+(l.dropWhile p).length=l.length:=by
 rw[<-aD,List.takeWhile_append_dropWhile]
theorem NO {r v r':ab}(h:kJ r=.inr (v,r')):v.length<=r.length∧r'.length<=r.length:=by
 unfold kJ at h;split at h
 . split at h
   . cases h
   . rename_i x a;injection h with h;subst h;have:=Ff _ _ _ _ _ (am _) a;rw[qX] at this;simp only[iy] at this;omega
 . split at h
   . cases h
   . injection h with h;injection h with b c;subst b;subst c;exact⟨Fp _ _,uF _ _⟩
theorem NP {r r':ab}{p:cU}(h:kf r=.inr (p,r')):p.1.length<=r.length∧p.2.length<=r.length∧r'.length<=r.length:=by
 unfold kf at h;split at h
 . simp only[] at h;split at h
   . cases h
   . split at h
     . split at h
       . cases h
       . rename_i x a;injection h with h;injection h with b c;subst b;subst c;have d:=NO (v:=x.1) (r':=x.2) a;rw[qX] at d;have f:=uF dC (r.tail.dropWhile eb);have e:=uF eb r.tail;have g:=Fp dC (r.tail.dropWhile eb);rw[qX] at e;dsimp only;rw[rL];omega
     . cases h
 . cases h
theorem Fq (N:Nat):∀(n:Nat) (r:ab) (a b:List cU),r.length<=N->(∀p∈a,p.1.length<=N∧p.2.length<=N)->jl n r a=.inr b->∀p∈b,p.1.length<=N∧p.2.length<=N
 | 0, r, a, b, _, ha, h => by
   rw[jl] at h;injection h with h;subst h;exact ha
 | n + 1, r, a, b, e, ha, h => by
   rw[jl] at h;split at h
   . injection h with h;subst h;exact ha
   . split at h
     . cases h
     . rename_i x d;split at h
       . cases h
       . split at h
         . cases h
         . have f:=NP (p:=x.1) (r':=x.2) d;have g:=uF eb r;refine Fq N n x.2 _ b (by omega) (fun p c=>?_) h;rw[eJ,cW] at c;rcases c with c | rfl
           . exact ha p c
           . omega
theorem NQ {l wd r:ab}(h:qz l=.inr (wd,r)):wd.length<=l.length∧r.length<=l.length:=by
 unfold qz at h;simp only[] at h;have f:=uF eb l;have g:=Ft dC (l.dropWhile eb);split at h
 . cases h
 . split at h
   . rename_i a;split at h
     . cases h
     . injection h with h;injection h with b c;subst b;subst c;have d:=Ft dC ((l.dropWhile eb).dropWhile dC).tail;rw[qX] at d;have i:0<((l.dropWhile eb).dropWhile dC).length:=by
        cases e:(l.dropWhile eb).dropWhile dC with
        | nil=>rw[e] at a;cases a
        | cons _ _=>simp
       simp only[aD,rL,List.length_singleton];omega
   . injection h with h;injection h with b c;subst b;subst c;rw[rL];omega
theorem AI {l wd:ab}{b:List cU}(h:ee l=.inr (wd,b)):wd.length<=l.length∧∀p∈b,p.1.length<=l.length∧p.2.length<=l.length:=by
 unfold ee at h;split at h
 . cases h
 . split at h
   . cases h
   . rename_i x c;unfold kI at h;split at h
     . cases h
     . rename_i d a;injection h with h;injection h with e f;subst e;subst f;obtain⟨g,i⟩:=NQ (wd:=x.1) (r:=x.2) c;exact⟨g,Fq l.length _ _ _ _ i (fun p a=>by cases a) a⟩
theorem ET (t:ab):0<=(fC t).1∧(fC t).1<68719476736:=by
 unfold fC;generalize Lib.trimS (t.take (aV 59 t)) bX=l;unfold bB;split
 . exact⟨pO _,by decide⟩
 . split
   . rename_i a b;have c:¬(6:Int)<l.length:=fun e=>a (Or.inr e);exact wi 16 (by omega) (by omega) l b (by omega)
   . exact⟨pO _,by decide⟩
