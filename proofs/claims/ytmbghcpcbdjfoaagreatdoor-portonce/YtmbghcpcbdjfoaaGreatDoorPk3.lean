import Derived.Test.YtmbghcpcbdjfoaaGreatDoorAl
import Derived.Lib.SlTrimSet
import Derived.Lib.IndexLaws
import Derived.Below
open Option renaming none->U,some->M
open Bool renaming false->F
namespace Go.Proofs.YtmbghcpcbdjfoaaGreatDoor
def kM (c:Int):Bool:=decide (48<=c)&&decide (c<=57)
def oS (c:Int):Bool:=decide (65<=c)&&decide (c<=90)
def sf (c:Int):Bool:=(decide (97<=c)&&decide (c<=122))||oS c
def cG (c:Int):Bool:=c==9||(decide (32<=c)&&c != 127)
def C3:ae:=[33,35,36,37,38,39,42,43,45,46,94,95,96,124,126]
def fI (c:Int):Bool:=kM c||sf c||decide (0<=Lib.indexByte C3 c.toNat.toUInt8)
def mz (c:Int)(l:ae):Bool:=l.any fun b=>(b.toNat:Int)==c
def bl (c:Int):Int:=if kM c then c-48 else if decide (97<=c)&&decide (c<=102) then c-87 else if decide (65<=c)&&decide (c<=70) then c-55 else -1
theorem zz {p:Int->Bool}(h:(List.range 256).all (fun n=>p (n:Int))=true)(c:Int)(a:0<=c)(b:c<=255):p c=true:=by
 obtain⟨n,rfl⟩:=Int.eq_ofNat_of_zero_le a;exact pm.1 h n (List.mem_range.2 (by omega))
def xh:ae:=[48,49,50,51,52,53,54,55,56,57,65,66,67,68,69,70,71,72,73,74,75,76,77,78,79,80,81,82,83,84,85,86,87,88,89,90,97,98,99,100,101,102,103,104,105,106,107,108,109,110,111,112,113,114,115,116,117,118,119,120,121,122,33,35,36,37,38,39,42,43,45,46,94,95,96,124,126]
theorem I1 (c:Int)(a:0<=c)(b:c<=255):mz c xh=fI c:=by
 have:=zz (p:=fun c=>mz c xh==fI c) (by decide +kernel) c a b;simpa using this
def cT (l:ae):Bool:=!l.isEmpty&&l.all fun b=>fI b.toNat
def zy (l:ae):Bool:=l.all fun b=>fI b.toNat
def cF (l:ae):Bool:=l.all fun b=>cG b.toNat
theorem I9 (c:Int)(a:0<=c)(b:c<=255):-1<=bl c∧bl c<=15:=by
 have:=zz (p:=fun c=>decide (-1<=bl c∧bl c<=15)) (by decide +kernel) c a b;simpa using this
theorem I3 (c:Int)(l:ae)(b:UInt8):mz c (l++[b])=(mz c l||((b.toNat:Int)==c)):=by
 simp[mz]
theorem nj (s:ag)(k:Nat)(h:k<s.size):s.data.toList.take (k+1)=s.data.toList.take k++[s[k]]:=by
 rw[go (by simpa using h)];rfl
theorem nk (s:ag)(k:Nat)(h:s.size<=k):s.data.toList.take k=s.data.toList :=
 jy (by simpa using h)
theorem I2 (p:UInt8->Bool)(s:ag)(k:Nat)(h:k<s.size)(a:p s[k]=true):s.data.toList.any p=true:=by
 rw[List.any_eq_true];exact⟨s[k],by
  have:s[k]=s.data.toList[k]'(by simpa using h):=rfl;rw[this];exact dG _,a⟩
theorem si (p:UInt8->Bool)(s:ag)(k:Nat)(h:k<s.size)(b:p s[k]=F):s.data.toList.all p=F:=by
 rw[Bool.eq_false_iff,Ne,pm];intro a;have:=a s[k] (by
  have:s[k]=s.data.toList[k]'(by simpa using h):=rfl;rw[this];exact dG _)
 rw[this] at b;cases b
def ee (base:Int)(b:UInt8):Bool:=decide (0<=bl b.toNat)&&decide (bl b.toNat<base)
def iP (base:Int)(l:ae):Int:=l.foldl (fun n b=>n*base+bl b.toNat) 0
def bB (base most:Int)(l:ae):Int×Bool :=
 if l=[]∨most<l.length then (0,F) else if l.all (ee base) then (iP base l,true) else (0,F)
theorem zD (a:Int)(l:ae)(b:UInt8):iP a (l++[b])=iP a l*a+bl b.toNat:=by
 simp[iP]
theorem ss (b:UInt8):-1<=bl b.toNat∧bl b.toNat<=15:=I9 _ (by omega) (by have:=b.toNat_lt;omega)
theorem CV (a:Int)(c:0<=a)(d:a<=16):∀(l:ae) (n:Int) (B:Nat),0<=n->n<16 ^ B->l.all (ee a)=true ->
 0<=l.foldl (fun n b=>n*a+bl b.toNat) n∧l.foldl (fun n b=>n*a+bl b.toNat) n<16 ^ (B+l.length)
 | [],n,B,f,g,_=>⟨f,g⟩
 | b :: l, n, B, f, g, hl => by
   rw[po,gr] at hl;have i:=ss b;have j:0<=bl b.toNat:=by
    have:=hl.1;unfold ee at this;rw[gr] at this;exact tG this.1
   have k:=Int.mul_nonneg f c;have m:=Int.mul_le_mul_of_nonneg_left d f;have e:(16:Int) ^ (B+1)=16 ^ B*16:=Int.pow_succ ..;have:=CV a c d l (n*a+bl b.toNat) (B+1) (by omega) (by omega) hl.2;rw[pp,bO,show B+(l.length+1)=B+1+l.length by omega];exact this
theorem sj (a:Int)(b:0<=a)(c:a<=16)(l:ae)(d:l.all (ee a)=true)(f:l.length<=9):0<=iP a l∧iP a l<68719476736:=by
 have h:=CV a b c l 0 0 (ly _) (by decide) d;have:(16:Int) ^ (0+l.length)<=16 ^ 9:=by
  have:(16:Nat) ^ (0+l.length)<=16 ^ 9:=Nat.pow_le_pow_right (by decide) (by omega);exact_mod_cast this
 have e:(16:Int) ^ 9=68719476736:=by decide
 exact⟨h.1,by have:=h.2;unfold iP;omega⟩
theorem qS (p:UInt8->Bool)(l:ae)(b:UInt8):(l++[b]).all p=(l.all p&&p b):=by simp
theorem uD (b a:Int)(l:ae)(h:l=[]∨a<l.length):bB b a l=(0,F):=by unfold bB;rw[if_pos h]
theorem xi (a b:Int)(l:ae)(h:l.all (ee a)=F):bB a b l=(0,F):=by
 unfold bB;split
 . rfl
 . rw[h];rfl
theorem uE (a b:Int)(l:ae)(c:l≠[])(d:¬b<l.length)(h:l.all (ee a)=true):bB a b l=(iP a l,true):=by
 unfold bB;rw[if_neg (by simp[c,d]),h];rfl
theorem ep (s:ag):s.data.toList.length=s.size:=by simp
theorem zC (s:ag)(h:0<s.size):s.data.toList≠[]:=by
 intro e;have:=ep s;rw[e] at this;simp at this;omega
theorem nh (s:ag)(h:s.size=0):s=⟨#[]⟩:=by
 apply ByteArray.ext;exact Array.eq_empty_of_size_eq_zero h
theorem sg (s:ag)(h:0<s.size):s.toList.isEmpty=F:=by
 rw[Lib.toList_data];cases a:s.data.toList with
 | nil=>exact absurd a (zC s h)
 | cons _ _=>rfl
def mA (b:UInt8)(j:Nat):UInt8:=if 65<=b.toNat∧b.toNat<65+j then b+32 else b
def fR (b:UInt8):UInt8:=mA b 26
def aU (l:ae):ae:=l.map fR
theorem C1 (j:Nat)(h:j<26):((⟨#[65,66,67,68,69,70,71,72,73,74,75,76,77,78,79,80,81,82,83,84,85,86,87,88,89,90]⟩:ag)[j]'h).toNat=65+j :=
 (show ∀j:Fin 26,((⟨#[65,66,67,68,69,70,71,72,73,74,75,76,77,78,79,80,81,82,83,84,85,86,87,88,89,90]⟩:ag)[j.val]'j.isLt).toNat=65+j.val by decide +kernel) ⟨j,h⟩
theorem Jf (j:Nat)(h:j<26):((⟨#[97,98,99,100,101,102,103,104,105,106,107,108,109,110,111,112,113,114,115,116,117,118,119,120,121,122]⟩:ag).extract j (j+1)).data.toList=[((97+j).toUInt8)] :=
 (show ∀j:Fin 26,((⟨#[97,98,99,100,101,102,103,104,105,106,107,108,109,110,111,112,113,114,115,116,117,118,119,120,121,122]⟩:ag).extract j.val (j.val+1)).data.toList=[((97+j.val).toUInt8)] by decide +kernel) ⟨j,h⟩
theorem Ja (b:UInt8)(j:Nat)(h:j<26)(a:(((((⟨#[65,66,67,68,69,70,71,72,73,74,75,76,77,78,79,80,81,82,83,84,85,86,87,88,89,90]⟩:ag)[j]'h).toNat:Nat):Int)==(b.toNat:Int))=true):
 ((⟨#[97,98,99,100,101,102,103,104,105,106,107,108,109,110,111,112,113,114,115,116,117,118,119,120,121,122]⟩:ag).extract j (j+1)).data.toList=[mA b (j+1)]:=by
 rw[C1 j h] at a;have c:b.toNat=65+j:=by have:=cM.1 a;omega
 rw[Jf j h];unfold mA;rw[if_pos (by omega)];have:(97+j).toUInt8=b+32:=by
  apply pq.1;rw[UInt8.toNat_add,c];simp;omega
 rw[this]
theorem I4 (b:UInt8)(j:Nat)(h:j<26)(a:(((((⟨#[65,66,67,68,69,70,71,72,73,74,75,76,77,78,79,80,81,82,83,84,85,86,87,88,89,90]⟩:ag)[j]'h).toNat:Nat):Int)==(b.toNat:Int))=F):
 mA b (j+1)=mA b j:=by grind [mA,C1]
theorem I5 (b:UInt8):mA b 0=b:=by unfold mA;rw[if_neg (by omega)]
theorem CZ (s:ag)(k:Nat)(h:k<s.size):(s.extract k (k+1)).data.toList=[s[k]]:=by
 rw[Lib.extract_data,show k+1-k=1 by omega,gS (by simpa using h)];rfl
theorem I6 (l:ae)(b:UInt8):aU (l++[b])=aU l++[fR b]:=by simp[aU]
theorem sh (l:ae):(aU l).length=l.length:=by simp[aU]
theorem my (a b:ag):(a++b).data.toList=a.data.toList++b.data.toList:=by simp
theorem pB {x:ag}{l:ae}(h:x.data.toList=l):x=⟨l.toArray⟩:=by
 obtain⟨⟨m⟩⟩:=x;simp only at h;rw[h]
theorem sq {x:ag}{l:ae}(h:x.data.toList=l):x.size=l.length:=by rw[<-h,ep]
def mx:ae:=[48,49,50,51,52,53,54,55,56,57,97,98,99,100,101,102]
theorem Jg (j:Nat)(h:j<16):((⟨#[48,49,50,51,52,53,54,55,56,57,97,98,99,100,101,102]⟩:ag).extract j (j+1)).data.toList=[mx.getD j 0] :=
 (show ∀j:Fin 16,((⟨#[48,49,50,51,52,53,54,55,56,57,97,98,99,100,101,102]⟩:ag).extract j.val (j.val+1)).data.toList=[mx.getD j.val 0] by decide +kernel) ⟨j,h⟩
theorem Jd (b:UInt8)(j:Nat)(h:j<16)(a:fR b=mx.getD j 0):bl b.toNat=j:=by
 have c:=b.toNat_lt;have:=(show ∀(n:Fin 256) (j:Fin 16),fR n.val.toUInt8=mx.getD j.val 0->bl ((n.val.toUInt8).toNat:Int)=(j.val:Int) by decide +kernel) ⟨b.toNat,c⟩ ⟨j,h⟩;have e:b.toNat.toUInt8=b:=by simp
 simp only[e] at this;exact this a
theorem Jb (b:UInt8)(a:∀j,j<16->fR b≠mx.getD j 0):bl b.toNat=-1:=by
 have c:=b.toNat_lt;have:=(show ∀(n:Fin 256),(∀j:Fin 16,fR n.val.toUInt8≠mx.getD j.val 0)->bl ((n.val.toUInt8).toNat:Int)=-1 by decide +kernel) ⟨b.toNat,c⟩;have e:b.toNat.toUInt8=b:=by simp
 simp only[e] at this;exact this fun j=>a j.val j.isLt
theorem Je (b:UInt8)(j:Nat)(h:j<16):([fR b]==((⟨#[48,49,50,51,52,53,54,55,56,57,97,98,99,100,101,102]⟩:ag).extract j (j+1)).toList)=decide (fR b=mx.getD j 0):=by
 rw[Lib.toList_data,Jg j h];by_cases e:fR b=mx.getD j 0
 . rw[e];simp
 . rw[aW e];exact aO.2 (fun h=>e (by simpa using h))
theorem I7 (c:Int):mz c [48,49,50,51,52,53,54,55,56,57]=kM c:=by
 unfold mz kM;simp only[List.any_cons,List.any_nil,Bool.or_false];by_cases h:48<=c∧c<=57
 . rw[aV h.1,aV h.2];have:c=48∨c=49∨c=50∨c=51∨c=52∨c=53∨c=54∨c=55∨c=56∨c=57:=by omega
   rcases this with rfl | rfl | rfl | rfl | rfl | rfl | rfl | rfl | rfl | rfl <;> decide
 . have e:(decide (48<=c)&&decide (c<=57))=F:=by
    by_cases d:48<=c
    . rw[aW (show ¬c<=57 from fun f=>h ⟨d,f⟩)];simp
    . rw[aW d];rfl
   rw[e];have g:∀n:Nat,48<=n->n<=57->((n:Int)==c)=F:=fun n a b=>aO.2 (by omega);simp only[yv];refine⟨?_,?_,?_,?_,?_,?_,?_,?_,?_,?_⟩ <;> exact g _ (by decide) (by decide)
theorem Ji (b:UInt8):ee 10 b=kM b.toNat:=by
 have a:=b.toNat_lt;have:=zz (p:=fun c=>(decide (0<=bl c)&&decide (bl c<10))==kM c) (by decide +kernel) b.toNat (by omega) (by omega);exact cM.1 this
theorem xe (b:UInt8):ee 16 b=decide (0<=bl b.toNat):=by
 have:=ss b;unfold ee;rw[aV (show bl b.toNat<16 by omega)];simp
structure sP where
 b:ae
 a:Nat
 d:Bool
 c:Nat
def sQ:sP:=⟨[],0,F,0⟩
def pP (i c:Nat):sP:=⟨[],i,F,c⟩
def km (l:ae):Nat->ae->sP
 | _,[]=>sQ
 | i, c :: t =>
   if c=13 then
    match t with
    | []=>sQ
    | d::_=>if d=10 then ⟨l.take i,i+2,true,0⟩ else pP (i+2) 2
   else if c=10 then pP (i+1) 2
   else if cG c.toNat=F then pP (i+1) 3
   else if i=200 then pP (i+1) 4
   else km l (i+1) t
def aw (l:ae):sP:=km l 0 l
theorem Fo (l:ae)(i:Nat)(h:l.length<=i):km l i (l.drop i)=sQ:=by
 rw[lz h];rfl
theorem xT (l:ae)(i:Nat)(h:i<l.length):km l i (l.drop i) =
 if l[i]=13 then
  (if a:i+1<l.length then (if l[i+1]=10 then ⟨l.take i,i+2,true,0⟩ else pP (i+2) 2) else sQ)
 else if l[i]=10 then pP (i+1) 2
 else if cG l[i].toNat=F then pP (i+1) 3
 else if i=200 then pP (i+1) 4
 else km l (i+1) (l.drop (i+1)):=by
 rw[gS h];show(if l[i]=13 then _ else _)=_;by_cases b:l[i]=13
 . rw[if_pos b,if_pos b];by_cases a:i+1<l.length
   . rw[dif_pos a,gS a]
   . rw[dif_neg a,lz (by omega)]
 . rw[if_neg b,if_neg b]
structure cw where
 b:ae
 c:Bool
 a:Nat
def dv:cw:=⟨[],F,0⟩
def fM (s:cw)(c:UInt8):Nat :=
 if s.c=(c==10) then (if c=13∨c=10 then 0 else if cG c.toNat=F then 3 else if 200<=s.b.length then 4 else 0) else 2
def bu (s:cw)(c:UInt8):cw :=
 if s.a≠0 then s
 else if fM s c≠0 then { s with a:=fM s c }
 else if c=10 then ⟨[],F,0⟩
 else if c=13 then { s with c:=true }
 else { s with b:=s.b++[c] }
def cY (s:cw)(c:UInt8):ae:=if s.a=0∧fM s c=0∧c=10 then s.b else []
def fW (s:cw)(c:UInt8):Bool:=decide (s.a=0∧fM s c=0∧c=10)
structure qX (s:cw):Prop where
 d:∀b∈s.b,cG b.toNat=true
 c:s.b.length<=200
theorem qX.a:qX dv:=⟨fun b h=>by simp[dv] at h,by simp[dv]⟩
theorem MG:cG (13:UInt8).toNat=F:=by decide
theorem MH:cG (10:UInt8).toNat=F:=by decide
theorem xU {s:cw}{c:UInt8}(h:qX s):qX (bu s c):=by
 unfold bu;split
 . exact h
 . split
   . exact⟨h.d,h.c⟩
   . split
     . exact qX.a
     . split
       . exact⟨h.d,h.c⟩
       . rename_i _ a f k;have a:fM s c=0:=by omega
         unfold fM at a;split at a
         . split at a
           . rename_i g;rcases g with e | e <;> contradiction
           . split at a
             . omega
             . split at a
               . omega
               . rename_i _ _ i l;refine⟨fun b d=>?_,by simp;omega⟩;simp at d;rcases d with d | rfl
                 . exact h.d b d
                 . cases j:cG (b.toNat:Int)
                   . exact absurd j i
                   . rfl
         . omega
theorem MJ (l:ae)(n:Nat)(j:n<=l.length)(k:n<=200)(d:∀b∈l.take n,cG b.toNat=true):aw l=km l n (l.drop n):=by
 induction n with
 | zero=>rfl
 | succ n f =>
   have a:n<l.length:=by omega
   have g:l[n]∈l.take (n+1):=by
    rw[go a];exact qr _ (cD.2 rfl)
   have c:=d _ g;rw[f (by omega) (by omega) (fun b i=>d b (by
    rw[go a];exact qm _ i)),xT l n a]
   rw[if_neg (fun e=>by rw[e,MG] at c;cases c),if_neg (fun e=>by rw[e,MH] at c;cases c),if_neg (by rw[c];simp),if_neg (by omega)]
theorem Fk {s:cw}{c:UInt8}(h:(bu s c).a≠0):fW s c=F:=by grind [bu,fW]
theorem MF {s:cw}(c:UInt8)(h:s.a≠0):bu s c=s∧cY s c=[]∧fW s c=F:=by grind [bu,cY,fW]
theorem MI (l:ae):∀(d i:Nat),l.length-i=d->i<=l.length->(km l i (l.drop i)).a<=l.length:=by
 intro d;induction d with
 | zero =>
   intro i b c;rw[Fo l i (by omega)];exact ax _
 | succ d e =>
   intro i b c;have a:i<l.length:=by omega
   rw[xT l i a];split
   . split
     . split
       . show i+2<=_;omega
       . show i+2<=_;omega
     . exact ax _
   . split
     . show i+1<=_;omega
     . split
       . show i+1<=_;omega
       . split
         . show i+1<=_;omega
         . exact e (i+1) (by omega) (by omega)
theorem vm (l:ae):(aw l).a<=l.length:=MI l _ 0 rfl (ax _)
theorem Fp (l:ae):∀(t:ae) (i:Nat),(km l i t).a=0->km l i t=sQ
 | [],i,_=>rfl
 | c :: t, i, h => by
   unfold km at h ⊢;split at h
   . rename_i a;rw[if_pos a];split at h
     . rfl
     . split at h
       . exact absurd (show i+2=0 from h) (by omega)
       . exact absurd (show i+2=0 from h) (by omega)
   . rename_i a;rw[if_neg a];split at h
     . exact absurd (show i+1=0 from h) (by omega)
     . rename_i b;rw[if_neg b];split at h
       . exact absurd (show i+1=0 from h) (by omega)
       . rename_i d;rw[if_neg d];split at h
         . exact absurd (show i+1=0 from h) (by omega)
         . rename_i e;rw[if_neg e];exact Fp l t (i+1) h
theorem ME (l:ae)(h:(aw l).a=0):aw l=sQ:=Fp l l 0 h
def ba:Nat->Nat->ae
 | 0,n=>[(48+n).toUInt8]
 | f+1,n=>if n<10 then [(48+n).toUInt8] else ba f (n / 10)++[(48+n % 10).toUInt8]
theorem zA (j:Nat)(h:j<10):((⟨#[48,49,50,51,52,53,54,55,56,57]⟩:ag).extract j (j+1)).data.toList=[(48+j).toUInt8] :=
 (show ∀j:Fin 10,((⟨#[48,49,50,51,52,53,54,55,56,57]⟩:ag).extract j.val (j.val+1)).data.toList=[(48+j.val).toUInt8] by decide +kernel) ⟨j,h⟩
theorem jq:∀f n,(ba f n).length<=f+1∧1<=(ba f n).length:=by intro l;induction l <;> grind [ba]
theorem zB (j:Nat)(h:j<10):ee 10 ((48+j).toUInt8)=true∧bl ((48+j).toUInt8).toNat=j :=
 (show ∀j:Fin 10,ee 10 ((48+j.val).toUInt8)=true∧bl ((48+j.val).toUInt8).toNat=j.val by decide +kernel) ⟨j,h⟩
theorem C0:∀f n,n<10 ^ (f+1)->(ba f n).all (ee 10)=true∧iP 10 (ba f n)=n
 | 0, n, h => by
   have:=zB n (by simpa using h);simp only[ba,po,List.all_nil,Bool.and_true,iP,pp,List.foldl_nil];exact⟨this.1,by rw[this.2];omega⟩
 | f + 1, n, h => by
   unfold ba;split
   . rename_i c;have:=zB n c;simp only[po,List.all_nil,Bool.and_true,iP,pp,List.foldl_nil];exact⟨this.1,by rw[this.2];omega⟩
   . have d:n / 10<10 ^ (f+1):=by
      rw[Nat.pow_succ] at h;omega
     have a:=C0 f (n / 10) d;have b:=zB (n % 10) (by omega);rw[qS,zD,a.1,a.2,b.1,b.2];exact⟨rfl,by omega⟩
theorem I8 (n:Nat)(h:n<1000000000):bB 10 9 (ba 8 n)=((n:Int),true):=by grind [bB,ba,jq,C0,uE]
theorem Jh (b:UInt8)(h:oS b.toNat=F):fR b=b:=by
 unfold fR mA;rw[if_neg];intro a;unfold oS at h;rw[aV (by omega),aV (by omega)] at h;cases h
theorem Jc (b:UInt8)(h:oS b.toNat=true):((fR b).toNat:Int)=b.toNat-65+97:=by
 unfold oS at h;rw[gr,bS,bS] at h;unfold fR mA;rw[if_pos (by omega),UInt8.toNat_add];have:(32:UInt8).toNat=32:=rfl;rw[this];omega
theorem CU (p:UInt8->Bool)(a:UInt8)(t:ae):
 ((a::t).reverse.dropWhile p).reverse=if ((t.reverse.dropWhile p).reverse)=[] then (if p a then [] else [a]) else a::(t.reverse.dropWhile p).reverse:=by
 rw[List.reverse_cons,List.dropWhile_append];by_cases h:(t.reverse.dropWhile p)=[]
 . rw[h];simp[List.dropWhile];cases p a <;> simp
 . have b:(List.dropWhile p t.reverse).isEmpty=F:=by
    cases c:List.dropWhile p t.reverse with
    | nil=>exact absurd c h
    | cons _ _=>rfl
   rw[b];simp[h]
theorem CW (p:UInt8->Bool):∀l:ae,(((l.dropWhile p).reverse.dropWhile p).reverse)=((l.reverse.dropWhile p).reverse).dropWhile p
 | []=>rfl
 | a :: t => by
   rw[CU];cases b:p a
   . rw[mT,b];simp only[wt,if_false];rw[CU];split <;> simp[b]
   . rw[mT,b];simp only[if_true];rw[CW p t];split
     . rename_i h;rw[h]
     . rw[mT,b];simp
def aX:ae:=[32,9]
theorem xj (l:ae):Lib.trimRightS (Lib.trimLeftS l aX) aX=Lib.trimS l aX:=CW (aX.contains ·) l
theorem xf (b:UInt8):aX.contains b=(((b.toNat:Int)==32)||((b.toNat:Int)==9)):=by
 have a:=b.toNat_lt;have:=(show ∀n:Fin 256,aX.contains n.val.toUInt8=((((n.val.toUInt8).toNat:Int)==32)||(((n.val.toUInt8).toNat:Int)==9)) by decide +kernel) ⟨b.toNat,a⟩;have e:b.toNat.toUInt8=b:=by simp
 simpa only[e] using this
theorem CX (x:ag)(h:0<x.size):x.data.toList=x[0]::x.data.toList.drop 1:=by
 have:=gS (l:=x.data.toList) (i:=0) (by simpa using h);rw[List.drop_zero] at this;exact this
theorem CY (x:ag)(h:0<x.size):x.data.toList=x.data.toList.take (x.size-1)++[x[x.size-1]]:=by
 have:=nj x (x.size-1) (by omega);rw[<-this,nk x _ (by omega)]
theorem C2 (x:ag)(h:0<x.size)(a:aX.contains x[0]=true):Lib.trimLeftS (x.data.toList.drop 1) aX=Lib.trimLeftS x.data.toList aX:=by
 unfold Lib.trimLeftS;conv=>rhs;rw[CX x h,mT,a]
 rfl
theorem Jn (x:ag)(a:∀h:0<x.size,aX.contains (x[0]'h)=F):Lib.trimLeftS x.data.toList aX=x.data.toList:=by
 unfold Lib.trimLeftS;by_cases h:0<x.size
 . rw[CX x h,mT,a h];rfl
 . obtain rfl:=nh x (by omega);rfl
theorem C4 (x:ag)(h:0<x.size)(a:aX.contains (x[x.size-1]'(by omega))=true):Lib.trimRightS (x.data.toList.take (x.size-1)) aX=Lib.trimRightS x.data.toList aX:=by
 unfold Lib.trimRightS;conv=>rhs;rw[CY x h,yE,List.reverse_cons,List.reverse_nil,jo,List.singleton_append,mT,a]
 rfl
theorem Jo (x:ag)(a:∀h:0<x.size,aX.contains (x[x.size-1]'(by omega))=F):Lib.trimRightS x.data.toList aX=x.data.toList:=by
 unfold Lib.trimRightS;by_cases h:0<x.size
 . rw[CY x h,yE,List.reverse_cons,List.reverse_nil,jo,List.singleton_append,mT,a h];simp
 . obtain rfl:=nh x (by omega);rfl
def bg (c:UInt8)(l:ae):Nat:=l.findIdx (·==c)
theorem DE (c:UInt8)(l:ae):bg c l<=l.length:=List.findIdx_le_length
theorem zR {c:UInt8}{l:ae}(h:bg c l<l.length):l[bg c l]=c:=by grind [bg]
theorem zQ {c:UInt8}{l:ae}{j:Nat}(h:j<bg c l)(a:j<l.length):l[j]≠c:=by grind [bg]
theorem DD {c:UInt8}{l:ae}(h:∀j (a:j<l.length),l[j]≠c):bg c l=l.length:=by grind [bg]
theorem zX {c:UInt8}{l:ae}{k:Nat}(a:k<l.length)(h:l[k]=c)(b:∀j (d:j<k),l[j]≠c):bg c l=k:=by
 rcases Nat.lt_trichotomy (bg c l) k with g | g | g
 . exact absurd (zR (Nat.lt_trans g a)) (b _ g)
 . exact g
 . exact absurd h (zQ g a)
structure zW where
 b:ae
 c:ae
 a:Nat
def gd (c:Nat):zW:=⟨[],[],c⟩
def aP (l:ae):zW :=
 if bg 58 l=l.length then gd 5
 else if cT (l.take (bg 58 l))=F then gd 6
 else if 40<bg 58 l then gd 4
 else if cF (l.drop (bg 58 l+1))=F then gd 3
 else ⟨l.take (bg 58 l),Lib.trimS (l.drop (bg 58 l+1)) aX,0⟩
def bz (n v:ae):ae×Nat :=
 if cT n=F then ([],6)
 else if 40<n.length∨200<n.length+2+v.length then ([],4)
 else if cF v=F∨Lib.trimS v aX≠v then ([],3)
 else (n++[58,32]++v,0)
structure zG where
 b:ae
 a:Nat
 d:Bool
 c:Nat
def dK (t:ae):Int×Bool:=bB 16 6 (Lib.trimS (t.take (bg 59 t)) aX)
def sy:Nat->ae->Nat->zG
 | 0,_,_=>⟨[],0,F,0⟩
 | f + 1, l, n =>
   if (aw l).c≠0∨(aw l).d=F then ⟨[],(aw l).a,F,(aw l).c⟩
   else if (aw l).b=[] then ⟨[],(aw l).a,true,0⟩
   else if n=16 then ⟨[],(aw l).a,F,8⟩
   else if (aP (aw l).b).a≠0 then ⟨[],(aw l).a,F,(aP (aw l).b).a⟩
   else let r:=sy f (l.drop (aw l).a) (n+1);⟨r.b,(aw l).a+r.a,r.d,r.c⟩
def uF:Nat->ae->Nat->zG
 | 0,_,_=>⟨[],0,F,0⟩
 | f + 1, l, n =>
   if (aw l).c≠0∨(aw l).d=F then ⟨[],(aw l).a,F,(aw l).c⟩
   else if (dK (aw l).b).2=F then ⟨[],(aw l).a,F,7⟩
   else if 4000<n+(dK (aw l).b).1.toNat then ⟨[],(aw l).a,F,4⟩
   else if (dK (aw l).b).1.toNat=0 then
    let r:=sy (f+1) (l.drop (aw l).a) 0;⟨r.b,(aw l).a+r.a,r.d,r.c⟩
   else
    let k:=(dK (aw l).b).1.toNat
    let d:=l.drop (aw l).a
    if d.length<k then ⟨d,(aw l).a+d.length,F,0⟩
    else
     let e:=d.drop k
     if (aw e).c≠0∨(aw e).d=F then ⟨d.take k,(aw l).a+k+(aw e).a,F,(aw e).c⟩
     else if (aw e).b≠[] then ⟨d.take k,(aw l).a+k+(aw e).a,F,5⟩
     else let r:=uF f (e.drop (aw e).a) (n+k);⟨d.take k++r.b,(aw l).a+k+(aw e).a+r.a,r.d,r.c⟩
def eU (l:ae):zG:=uF (l.length+1) l 0
structure dz where
 b:Nat
 d:cw
 c:Nat
 f:Nat
 e:Nat
 a:Nat
def sv:dz:=⟨0,dv,0,0,0,0⟩
def fS (s:dz)(t:ae):dz :=
 if s.b=0 then
  (if (dK t).2 = F then { s with a := 7 }
   else if 4000<s.f+(dK t).1.toNat then { s with a:=4 }
   else if (dK t).1.toNat=0 then { s with b:=3 }
   else { s with b:=1,c:=(dK t).1.toNat,f:=s.f+(dK t).1.toNat })
 else if s.b=2 then (if t≠[] then { s with a:=5 } else { s with b:=0 })
 else if t=[] then { s with b:=4 }
 else if s.e=16 then { s with a:=8 }
 else if (aP t).a≠0 then { s with a:=(aP t).a }
 else { s with e:=s.e+1 }
def df (s:dz)(c:UInt8):dz :=
 if s.a≠0 then s
 else if s.b=4 then { s with a:=18 }
 else if s.b=1 then { s with c:=s.c-1,b:=if s.c<=1 then 2 else 1 }
 else if (bu s.d c).a≠0 then { s with a:=(bu s.d c).a }
 else if fW s.d c=true then fS { s with d:=dv } (cY s.d c)
 else { s with d:=bu s.d c }
def iQ (s:dz)(c:UInt8):ae:=if s.a=0∧s.b=1 then [c] else []
structure aL where
 b:Int
 c:Int
 d:ag
 a:ae
 e:Int
structure aA where
 l:List aL
 a:Int
def fA:aA:=⟨[],0⟩
def cH:List aL->Nat
 | []=>0
 | u::t=>u.a.length+cH t
def cq:List aL->Int->Option Nat
 | [],_=>U
 | u::t,id=>if u.b=id then M 0 else (cq t id).map (·+1)
def cR (s:aA)(id:Int)(f:Nat->aL->aA×Nat):aA×Nat :=
 match cq s.l id with
 | none=>(s,10)
 | some i => match s.l[i]? with
   | none=>(s,10)
   | some u=>f i u
def fq (s:aA)(size:Int)(m:ag):aA×Int×Nat :=
 if size < -1 then (s,0,1) else if 2000<size∨100<m.size then (s,0,4) else if cF m.data.toList=F∨Lib.trimS m.data.toList aX≠m.data.toList then (s,0,3) else if 12<=s.l.length then (s,0,8)
 else (⟨s.l++[⟨s.a+1,size,m,[],0⟩],s.a+1⟩,s.a+1,0)
def iG (s:aA)(id off:Int)(b:ae):aA×Nat:=cR s id fun i u =>
 if u.e≠0 then (s,19) else if off≠u.a.length then (s,17) else if 2000<u.a.length+b.length∨(0<=u.c∧u.c<u.a.length+b.length) then (s,4) else if 6000<cH s.l+b.length then (s,16)
 else (⟨s.l.set i { u with a:=u.a++b },s.a⟩,0)
def li (s:aA)(id size:Int):aA×Nat:=cR s id fun i u =>
 if 0<=u.c then (s,18) else if size<0 then (s,1) else if 2000<size∨size<u.a.length then (s,4)
 else (⟨s.l.set i { u with c:=size },s.a⟩,0)
def lU (s:aA)(id:Int):aA×Nat:=cR s id fun i _=>(⟨s.l.eraseIdx i,s.a⟩,0)
def jP (s:aA)(id:Int):aA×Nat:=cR s id fun i u =>
 if u.e≠0 then (s,19) else if u.c≠u.a.length then (s,14) else (⟨s.l.set i { u with e:=1 },s.a⟩,0)
def lj (s:aA)(id:Int):aA×Nat:=cR s id fun i u =>
 if u.e≠1 then (s,19) else (⟨s.l.set i { u with e:=2 },s.a⟩,0)
structure Hb (last:Int)(u:aL):Prop where
 f:1<=u.b
 c:u.b<=last
 d:-1<=u.c
 e:u.c<=2000
 a:u.a.length<=2000
 g:0<=u.c->u.a.length<=u.c
 h:0<=u.e
 i:u.e<=2
 j:u.e≠0->u.c=u.a.length
 b:u.d.size<=100
structure cO (s:aA):Prop where
 b:s.l.length<=12
 d:cH s.l<=6000
 c:0<=s.a
 f:(s.l.map (·.b)).Pairwise (·<·)
 a:∀u∈s.l,Hb s.a u
theorem cO.q:cO fA:=⟨by simp[fA],by simp[fA,cH],by simp[fA],by simp[fA],fun u h=>by simp[fA] at h⟩
theorem BV:∀a b:List aL,cH (a++b)=cH a+cH b:=by intro l;induction l <;> grind [cH]
theorem G8:∀(l:List aL) (i:Nat) (u v:aL),l[i]? = M u->cH (l.set i v)+u.a.length=cH l+v.a.length
 | [],i,u,v,h=>by simp at h
 | x :: t, 0, u, v, h => by
   have h:x=u:=by simpa using h
   subst h;rw[qt,cH,cH];omega
 | x :: t, i + 1, u, v, h => by
   have:=G8 t i u v (by simpa using h);rw[List.set_cons_succ,cH,cH];omega
theorem G4:∀(l:List aL) (i:Nat),cH (l.eraseIdx i)<=cH l
 | [],i=>by simp[cH]
 | x::t,0=>by rw[List.eraseIdx_cons_zero,cH];omega
 | x::t,i+1=>by have:=G4 t i;rw[List.eraseIdx_cons_succ,cH,cH];omega
theorem yh:∀(l:List aL) (id:Int) (i:Nat),cq l id=M i->∃u,l[i]? = M u∧u.b=id
 | [],id,i,h=>by cases h
 | x :: t, id, i, h => by
   rw[cq] at h;split at h
   . rename_i b;injection h with h;subst h;exact⟨x,rfl,b⟩
   . cases a:cq t id with
     | none=>rw[a] at h;cases h
     | some j =>
       rw[a] at h;injection h with h;obtain⟨u,c,d⟩:=yh t id j a;subst h;exact⟨u,by simpa using c,d⟩
theorem cO.j {s:aA}(h:cO s){i:Nat}{u v:aL}(c:s.l[i]? = M u)(b:v.b=u.b)(d:Hb s.a v)(f:cH s.l+v.a.length<=6000+u.a.length):cO ⟨s.l.set i v,s.a⟩:=by
 refine⟨by simpa using h.b,?_,h.c,?_,fun x a=>?_⟩
 . have:=G8 s.l i u v c;show cH (s.l.set i v)<=6000;omega
 . have:(s.l.set i v).map (·.b)=s.l.map (·.b):=by
    rw[List.map_set,b];refine List.ext_getElem? fun k=>?_;rw[List.getElem?_set];split
    . rename_i e;subst e;split
      . rw[List.getElem?_map,c];rfl
      . rename_i g;rw[yF (by omega)]
    . rfl
   show((s.l.set i v).map (·.b)).Pairwise (·<·);rw[this];exact h.f
 . rcases List.mem_or_eq_of_mem_set a with a | a
   . exact h.a x a
   . subst a;exact d
theorem cO.e {s:aA}(h:cO s){id:Int}{f:Nat->aL->aA×Nat}(a:∀i u,s.l[i]? = M u->cO (f i u).1):cO (cR s id f).1:=by grind [cR]
theorem cO.jD {s:aA}(h:cO s)(size:Int)(m:ag):cO (fq s size m).1:=by
 unfold fq;split
 . exact h
 . split
   . exact h
   . split
     . exact h
     . split
       . exact h
       . rename_i f g _ i;have j:=h.c;refine⟨by simp;omega,?_,by show 0<=s.a+1;omega,?_,fun u c=>?_⟩
         . show cH (s.l++[_])<=6000;rw[BV];have:=h.d;simp[cH];omega
         . show((s.l++[(⟨s.a+1,size,m,[],0⟩:aL)]).map (·.b)).Pairwise (·<·);rw[lB,List.pairwise_append];refine⟨h.f,by simp,fun a ha b d=>?_⟩;obtain⟨u,c,rfl⟩:=jT.1 ha;have:=(h.a u c).c;simp at d;subst d;show u.b<s.a+1;omega
         . rcases dm.1 c with c | c
           . have:=h.a u c;exact⟨this.f,by have:=this.c;show u.b<=s.a+1;omega,this.d,this.e,this.a,this.g,this.h,this.i,this.j,this.b⟩
           . rw[cD.1 c];exact⟨by show 1<=s.a+1;omega,ly _,by show -1<=size;omega,by show size<=2000;omega,by simp,fun e=>by simpa using e,by simp,by simp,fun e=>absurd rfl e,by show m.size<=100;omega⟩
theorem cO.r {s:aA}(h:cO s)(id c:Int)(b:ae):cO (iG s id c b).1:=by
 refine h.e fun i u d=>?_;have a:=h.a u (mm d);have g:=h.d;split
 . exact h
 . split
   . exact h
   . split
     . exact h
     . split
       . exact h
       . rename_i f j k l;refine h.j d rfl ⟨a.f,a.c,a.d,a.e,by simp;omega,fun e=>?_,a.h,a.i,fun e=>absurd e (by simpa using f),a.b⟩ (by simp;omega);have m:0<=u.c:=e;simp only[aF];omega
theorem cO.B {s:aA}(h:cO s)(id size:Int):cO (li s id size).1:=by
 refine h.e fun i u b=>?_;have a:=h.a u (mm b);have c:=h.d;split
 . exact h
 . split
   . exact h
   . split
     . exact h
     . rename_i d f g;refine h.j b rfl ⟨a.f,a.c,by show -1<=size;omega,by show size<=2000;omega,a.a,fun _=>by show(u.a.length:Int)<=size;omega,a.h,a.i,fun e=>?_,a.b⟩ (by show cH s.l+u.a.length<=_;omega);have:=a.j e;omega
theorem cO.E {s:aA}(h:cO s)(id:Int):cO (lU s id).1:=by
 refine h.e fun i u b=>?_;refine⟨ce (List.length_eraseIdx_le ..) h.b,ce (G4 s.l i) h.d,h.c,?_,fun x a=>h.a x (List.mem_of_mem_eraseIdx a)⟩;show((s.l.eraseIdx i).map (·.b)).Pairwise (·<·);exact h.f.sublist ((List.eraseIdx_sublist s.l i).map _)
theorem cO.y {s:aA}(h:cO s)(id:Int):cO (jP s id).1:=by
 refine h.e fun i u b=>?_;have a:=h.a u (mm b);have d:=h.d;split
 . exact h
 . split
   . exact h
   . rename_i e c;exact h.j b rfl ⟨a.f,a.c,a.d,a.e,a.a,a.g,by simp,by simp,fun _=>by simpa using c,a.b⟩ (by show cH s.l+u.a.length<=_;omega)
theorem cO.G {s:aA}(h:cO s)(id:Int):cO (lj s id).1:=by
 refine h.e fun i u c=>?_;have a:=h.a u (mm c);have e:=h.d;split
 . exact h
 . rename_i d;have b:u.e=1:=by simpa using d
   exact h.j c rfl ⟨a.f,a.c,a.d,a.e,a.a,a.g,by simp,by simp,fun _=>a.j (by rw[b];decide),a.b⟩ (by show cH s.l+u.a.length<=_;omega)
theorem G5 (l:List aL)(k:Nat)(h:k<l.length):cH (l.take (k+1))=cH (l.take k)+l[k].a.length:=by
 rw[go h,BV];simp[cH]
theorem Ha (l:List aL)(k:Nat):cH (l.take k)<=cH l:=by
 conv=>rhs;rw[<-jn k l,BV]
 omega
theorem Ql (l:List aL)(k:Nat)(h:k<l.length):l[k].a.length<=cH l:=by
 have a:=G5 l k h;have b:=Ha l (k+1);omega
theorem G9:∀(l:List aL) (id:Int) (k:Nat) (h:k<l.length),l[k].b=id->(∀u∈l.take k,u.b≠id)->cq l id=M k
 | x::t,id,0,_,e,_=>by rw[cq,if_pos (by simpa using e)]
 | x :: t, id, k + 1, h, e, hn => by
   rw[cq,if_neg (hn x (by simp)),G9 t id k (by simpa using h) (by simpa using e) (fun u a=>hn u (by simp[a]))];rfl
theorem Qm:∀(l:List aL) (id:Int),(∀u∈l,u.b≠id)->cq l id=U:=by intro l;induction l <;> grind [cq]
theorem lk {l:List aL}{id:Int}{i:Nat}(h:cq l id=M i):i<l.length:=by grind [cq,yh]
theorem rk {s:aA}{id:Int}{f:Nat->aL->aA×Nat}(h:cq s.l id=U):cR s id f=(s,10):=by
 unfold cR;rw[h]
theorem rj {s:aA}{id:Int}{f:Nat->aL->aA×Nat}{i:Nat}(h:cq s.l id=M i):cR s id f=f i (s.l[i]'(lk h)):=by grind [cq,cR]
def qc (l:List aL)(id:Int):Int:=match cq l id with
 | none=>-1
 | some i=>i
theorem rl {l:List aL}{id:Int}(h:cq l id=U):qc l id=-1:=by unfold qc;rw[h]
theorem qe {l:List aL}{id:Int}{i:Nat}(h:cq l id=M i):qc l id=i:=by unfold qc;rw[h]
theorem Qj (s:aA)(size:Int)(m:ag):(fq s size m).1.a<=s.a+1:=by
 unfold fq;split
 . show s.a<=_;omega
 . split
   . show s.a<=_;omega
   . split
     . show s.a<=_;omega
     . split
       . show s.a<=_;omega
       . exact ly _
theorem vV (s:aA)(id:Int)(f:Nat->aL->aA×Nat)(a:∀i u,(f i u).1.a=s.a):(cR s id f).1.a=s.a:=by grind [cR]
theorem G2 (s:aA)(id a:Int)(b:ae):(iG s id a b).1.a=s.a:=by grind [iG,vV]
theorem Hc (s:aA)(id size:Int):(li s id size).1.a=s.a:=vV s id _ fun i u=>by
 split
 . rfl
 . split
   . rfl
   . split <;> rfl
theorem G6 (s:aA)(id:Int):(lU s id).1.a=s.a:=vV s id _ fun _ _=>rfl
theorem G3 (s:aA)(id:Int):(jP s id).1.a=s.a:=vV s id _ fun i u=>by
 split
 . rfl
 . split <;> rfl
theorem G7 (s:aA)(id:Int):(lj s id).1.a=s.a:=vV s id _ fun i u=>by
 split <;> rfl
def kw (s:aA)(off:Int)(b:ae)(i:Nat)(u:aL):aA×Nat :=
 if u.e≠0 then (s,19) else if off≠u.a.length then (s,17) else if 2000<u.a.length+b.length∨(0<=u.c∧u.c<u.a.length+b.length) then (s,4) else if 6000<cH s.l+b.length then (s,16)
 else (⟨s.l.set i { u with a:=u.a++b },s.a⟩,0)
def kv (s:aA)(size:Int)(i:Nat)(u:aL):aA×Nat :=
 if 0<=u.c then (s,18) else if size<0 then (s,1) else if 2000<size∨size<u.a.length then (s,4)
 else (⟨s.l.set i { u with c:=size },s.a⟩,0)
def vU (s:aA)(i:Nat)(_:aL):aA×Nat:=(⟨s.l.eraseIdx i,s.a⟩,0)
def pg (s:aA)(i:Nat)(u:aL):aA×Nat :=
 if u.e≠0 then (s,19) else if u.c≠u.a.length then (s,14) else (⟨s.l.set i { u with e:=1 },s.a⟩,0)
def ri (s:aA)(i:Nat)(u:aL):aA×Nat :=
 if u.e≠1 then (s,19) else (⟨s.l.set i { u with e:=2 },s.a⟩,0)
theorem BU (s:aA)(id a:Int)(b:ae):iG s id a b=cR s id (kw s a b):=rfl
theorem Qk (s:aA)(id size:Int):li s id size=cR s id (kv s size):=rfl
theorem Qp (s:aA)(id:Int):lU s id=cR s id (vU s):=rfl
theorem Qo (s:aA)(id:Int):jP s id=cR s id (pg s):=rfl
theorem Qq (s:aA)(id:Int):lj s id=cR s id (ri s):=rfl
def eg (c:UInt8):Bool:=c==32||c==9
def dD (c:UInt8):Bool:=fI c.toNat
def gi (p:UInt8->Bool)(l:ae)(i:Nat):Nat:=((l.drop i).takeWhile p).length
theorem FW {p:UInt8->Bool}{l:ae}{i:Nat}(h:i<l.length)(a:p l[i]=true):gi p l i=1+gi p l (i+1):=by
 unfold gi;rw[gS h,wv,a];simp only[if_true,bO];omega
theorem FX {p:UInt8->Bool}{l:ae}{i:Nat}(h:i<l.length)(a:p l[i]=F):gi p l i=0:=by
 unfold gi;rw[gS h,wv,a];rfl
theorem F8 (p:UInt8->Bool){l:ae}{i:Nat}(h:l.length<=i):gi p l i=0:=by
 unfold gi;rw[lz h];rfl
theorem F5 (p:UInt8->Bool)(l:ae)(i:Nat)(h:i<=l.length):i+gi p l i<=l.length:=by
 unfold gi;have:=(List.takeWhile_prefix (l:=l.drop i) p).length_le;rw[bV] at this;omega
def cl (l:ae)(i:Nat):Nat:=i+gi eg l i
def aJ (l:ae)(i:Nat):Nat:=gi dD l i
theorem FY (p:UInt8->Bool)(l:ae)(i:Nat):l.drop (i+gi p l i)=(l.drop i).dropWhile p:=by
 unfold gi;rw[<-oD];generalize l.drop i=t;induction t with
 | nil=>rfl
 | cons a t b =>
   rw[wv,mT];cases p a
   . rfl
   . simpa using b
theorem Nu (p:UInt8->Bool)(l:ae)(i:Nat):(l.drop i).take (gi p l i)=(l.drop i).takeWhile p:=by
 unfold gi;generalize l.drop i=t;induction t with
 | nil=>rfl
 | cons a t b =>
   rw[wv];cases p a
   . rfl
   . simpa using b
abbrev cZ:=ae×ae
def fy:ae->ae->Option (ae×ae)
 | _,[]=>U
 | acc,c::t=>if c=34 then M (acc,t) else if c=92 then (match t with
  | []=>U
  | d::t'=>fy (acc++[d]) t') else fy (acc++[c]) t
theorem Bc (a:ae):fy a []=U:=by unfold fy;rfl
theorem F3 (a t:ae):fy a (34::t)=M (a,t):=by unfold fy;rw[if_pos rfl]
theorem FP (a:ae):fy a [92]=U:=by unfold fy;rw[if_neg (by decide),if_pos rfl]
theorem FZ (a:ae)(d:UInt8)(t:ae):fy a (92::d::t)=fy (a++[d]) t:=by rw[fy,if_neg (by decide),if_pos rfl]
theorem F0 (a:ae)(c:UInt8)(t:ae)(b:c≠34)(d:c≠92):fy a (c::t)=fy (a++[c]) t:=by rw[fy.eq_def];simp only[];rw[if_neg b,if_neg d]
theorem FU (n:Nat):∀(a t v r:ae),t.length<=n->fy a t=M (v,r)->r.length<t.length∧v.length<=a.length+t.length:=by
 induction n with
 | zero =>
   intro a t v r h e;obtain rfl:t=[]:=gW (by omega);rw[Bc] at e;cases e
 | succ n b =>
   intro a t v r h e;cases t with
   | nil=>rw[Bc] at e;cases e
   | cons c t =>
     by_cases f:c=34
     . subst f;rw[F3] at e;injection e with e;injection e with i j;subst i;subst j;simp
     . by_cases g:c=92
       . subst g;cases t with
         | nil=>rw[FP] at e;cases e
         | cons d t =>
           rw[FZ] at e;have:=b _ _ _ _ (by simp at h ⊢;omega) e;simp at this ⊢;omega
       . rw[F0 _ _ _ f g] at e;have:=b _ _ _ _ (by simp at h ⊢;omega) e;simp at this ⊢;omega
def kZ (r:ae):Nat ⊕ (ae×ae) :=
 if r.head? = M 34 then (match fy [] r.tail with
  | none=>.inl 14
  | some x=>.inr x)
 else if r.takeWhile dD=[] then .inl 5 else .inr (r.takeWhile dD,r.dropWhile dD)
def kn (r:ae):Nat ⊕ (cZ×ae) :=
 if r.head? = M 59 then
  let r2:=r.tail.dropWhile eg
  if r2.takeWhile dD=[] then .inl 5
  else if (r2.dropWhile dD).head? = M 61 then (match kZ (r2.dropWhile dD).tail with
   | .inl c=>.inl c
   | .inr x=>.inr ((aU (r2.takeWhile dD),x.1),x.2))
  else .inl 5
 else .inl 5
def jv:Nat->ae->List cZ->Nat ⊕ List cZ
 | 0,_,acc=>.inr acc
 | n + 1, r, acc =>
   if r.dropWhile eg=[] then .inr acc
   else match kn (r.dropWhile eg) with
    | .inl c=>.inl c
    | .inr x=>if acc.any (fun q=>q.1==x.1.1) then .inl 9 else if acc.length=8 then .inl 8 else jv n x.2 (acc++[x.1])
def qZ (l:ae):Nat ⊕ (ae×ae) :=
 let r:=l.dropWhile eg
 if r.takeWhile dD=[] then .inl 5
 else if (r.dropWhile dD).head? = M 47 then
  (if (r.dropWhile dD).tail.takeWhile dD = [] then .inl 5
   else .inr (aU (r.takeWhile dD)++[47]++aU ((r.dropWhile dD).tail.takeWhile dD),(r.dropWhile dD).tail.dropWhile dD))
 else .inr (aU (r.takeWhile dD),r.dropWhile dD)
def kY (n:Nat)(wd r:ae)(acc:List cZ):Nat ⊕ (ae×List cZ):=match jv n r acc with
 | .inl c=>.inl c
 | .inr ps=>.inr (wd,ps)
def eh (l:ae):Nat ⊕ (ae×List cZ) :=
 if cF l=F then .inl 3
 else match qZ l with
  | .inl c=>.inl c
  | .inr x=>kY (l.length+1) x.1 x.2 []
theorem Bd (l:ae)(i:Nat):(l.drop i).dropWhile eg=l.drop (cl l i):=(FY eg l i).symm
theorem Ba (l:ae)(i:Nat):(l.drop i).dropWhile dD=l.drop (i+aJ l i):=(FY dD l i).symm
theorem xW (l:ae)(i:Nat):(l.drop i).takeWhile dD=(l.drop i).take (aJ l i):=(Nu dD l i).symm
theorem Nv (l:ae)(i:Nat):(l.drop i).takeWhile dD=[]<->aJ l i=0:=by
 unfold aJ gi;constructor
 . intro h;rw[h];rfl
 . intro h;exact gW h
theorem Bb (l:ae)(i:Nat):((l.drop i).take (aJ l i)=[])=(aJ l i=0):=by
 rw[<-xW];exact propext (Nv l i)
theorem xX (l:ae)(i:Nat)(h:i<=l.length):cl l i<=l.length:=F5 eg l i h
theorem FV (l:ae)(i:Nat):i<=cl l i:=ej _ _
theorem vA (l:ae)(i:Nat)(h:i<=l.length):i+aJ l i<=l.length:=F5 dD l i h
theorem ND (l:ae)(i:Nat):kZ (l.drop i) =
 if l[i]? = M 34 then (match fy [] (l.drop (i+1)) with
  | none=>.inl 14
  | some x=>.inr x)
 else if aJ l i=0 then .inl 5 else .inr ((l.drop i).take (aJ l i),l.drop (i+aJ l i)):=by
 unfold kZ;simp only[List.head?_drop,List.tail_drop,xW,Ba,Bb]
theorem NE (l:ae)(i:Nat):kn (l.drop i) =
 if l[i]? = M 59 then
  (if aJ l (cl l (i + 1)) = 0 then .inl 5
   else if l[cl l (i+1)+aJ l (cl l (i+1))]? = M 61 then (match kZ (l.drop (cl l (i+1)+aJ l (cl l (i+1))+1)) with
    | .inl c=>.inl c
    | .inr x=>.inr ((aU ((l.drop (cl l (i+1))).take (aJ l (cl l (i+1)))),x.1),x.2))
   else .inl 5)
 else .inl 5:=by
 unfold kn;simp only[List.head?_drop,List.tail_drop,Bd,Ba,xW,Bb]
theorem NA (l:ae)(n i:Nat)(a:List cZ)(b:i<=l.length):jv (n+1) (l.drop i) a =
 if cl l i=l.length then .inr a
 else match kn (l.drop (cl l i)) with
  | .inl c=>.inl c
  | .inr x=>if a.any (fun q=>q.1==x.1.1) then .inl 9 else if a.length=8 then .inl 8 else jv n x.2 (a++[x.1]):=by
 have d:=xX l i b;rw[jv,Bd];by_cases h:cl l i=l.length
 . rw[if_pos h,if_pos (by rw[h,List.drop_length])]
 . rw[if_neg h,if_neg (fun e=>h (by have:=mg List.length e;rw[bV] at this;simp at this;omega))]
theorem NF (l:ae):qZ l =
 if aJ l (cl l 0)=0 then .inl 5
 else if l[cl l 0+aJ l (cl l 0)]? = M 47 then
  (if aJ l (cl l 0 + aJ l (cl l 0) + 1) = 0 then .inl 5
   else .inr (aU ((l.drop (cl l 0)).take (aJ l (cl l 0)))++[47]++aU ((l.drop (cl l 0+aJ l (cl l 0)+1)).take (aJ l (cl l 0+aJ l (cl l 0)+1))),l.drop (cl l 0+aJ l (cl l 0)+1+aJ l (cl l 0+aJ l (cl l 0)+1))))
 else .inr (aU ((l.drop (cl l 0)).take (aJ l (cl l 0))),l.drop (cl l 0+aJ l (cl l 0))):=by
 unfold qZ;have e:l.dropWhile eg=l.drop (cl l 0):=by have:=Bd l 0;rwa[List.drop_zero] at this
 simp only[e,Ba,List.head?_drop,List.tail_drop,xW,Bb]
theorem Nw (l:ae)(c:cF l=true)(a b:Nat)(d:cl l 0=a)(e:aJ l a=b):eh l =
 if b=0 then .inl 5
 else if l[a+b]? = M 47 then
  (if aJ l (a + b + 1) = 0 then .inl 5
   else kY (l.length+1) (aU ((l.drop a).take b)++[47]++aU ((l.drop (a+b+1)).take (aJ l (a+b+1)))) (l.drop (a+b+1+aJ l (a+b+1))) [])
 else kY (l.length+1) (aU ((l.drop a).take b)) (l.drop (a+b)) []:=by grind [cF,cl,aJ,eh,kY,aU,NF]
theorem NG (l:ae)(n i:Nat)(wd:ae)(a:List cZ)(e:i<=l.length):kY (n+1) wd (l.drop i) a =
 if cl l i=l.length then .inr (wd,a)
 else match kn (l.drop (cl l i)) with
  | .inl c=>.inl c
  | .inr x=>if a.any (fun q=>q.1==x.1.1) then .inl 9 else if a.length=8 then .inl 8 else kY n wd x.2 (a++[x.1]):=by
 unfold kY;rw[NA l n i a e];by_cases h:cl l i=l.length
 . rw[if_pos h,if_pos h]
 . rw[if_neg h,if_neg h];cases kn (l.drop (cl l i)) with
   | inl c=>rfl
   | inr x =>
     simp only[];by_cases b:(a.any fun q=>q.1==x.1.1)=true
     . rw[if_pos b,if_pos b]
     . rw[if_neg b,if_neg b];by_cases d:a.length=8
       . rw[if_pos d,if_pos d]
       . rw[if_neg d,if_neg d]
def mI:List (Int×ae):=[(200,[79,75]),(201,[67,114,101,97,116,101,100]),(204,[78,111,32,67,111,110,116,101,110,116]),(400,[66,97,100,32,82,101,113,117,101,115,116]),(404,[78,111,116,32,70,111,117,110,100]),(405,[77,101,116,104,111,100,32,78,111,116,32,65,108,108,111,119,101,100]),(409,[67,111,110,102,108,105,99,116]),(412,[80,114,101,99,111,110,100,105,116,105,111,110,32,70,97,105,108,101,100]),(413,[67,111,110,116,101,110,116,32,84,111,111,32,76,97,114,103,101]),(415,[85,110,115,117,112,112,111,114,116,101,100,32,77,101,100,105,97,32,84,121,112,101]),(507,[73,110,115,117,102,102,105,99,105,101,110,116,32,83,116,111,114,97,103,101])]
def vI:List (Int×ae)->Int->ae
 | [],_=>[]
 | p::t,n=>if p.1=n then p.2 else vI t n
def ib (n:Int):ae:=vI mI n
theorem Bz:∀(l:List (Int×ae)) (n:Int),(∀p∈l,p.1≠n)->vI l n=[]:=by intro l;induction l <;> grind [vI]
theorem Pj {n:Int}(h:ib n≠[]):200<=n∧n<=507:=by
 by_cases c:∀p∈mI,p.1≠n
 . exact absurd (Bz mI n c) h
 . have:∃p,p∈mI∧p.1=n:=by
    apply tI;intro d;exact c (fun p b e=>d ⟨p,b,e⟩)
   obtain⟨p,b,rfl⟩:=this;have a:∀q∈mI,200<=q.1∧q.1<=507:=by decide
   exact a p b
theorem Gm (n:Int):(ib n).length<=22:=by
 by_cases c:∀p∈mI,p.1≠n
 . rw[ib,Bz mI n c];decide
 . have:∃p,p∈mI∧p.1=n:=by
    apply tI;intro d;exact c (fun p b e=>d ⟨p,b,e⟩)
   obtain⟨p,b,rfl⟩:=this;have a:∀q∈mI,(vI mI q.1).length<=22:=by decide
   exact a p b
def jx (p:ag×ag):ae:=(bz p.1.data.toList p.2.data.toList).1++[13,10]
def jL:aC->Nat
 | []=>0
 | p::t=>if (bz p.1.data.toList p.2.data.toList).2≠0 then (bz p.1.data.toList p.2.data.toList).2 else jL t
theorem Ph:∀(l:aC),(∀p∈l,(bz p.1.data.toList p.2.data.toList).2=0)->jL l=0:=by intro l;induction l <;> grind [bz,jL]
theorem Gn:∀(l:aC) (i:Nat) (a:i<l.length),(∀p∈l.take i,(bz p.1.data.toList p.2.data.toList).2=0)->(bz l[i].1.data.toList l[i].2.data.toList).2≠0->jL l=(bz l[i].1.data.toList l[i].2.data.toList).2
 | p::t,0,_,_,hc=>by rw[jL,if_pos (by simpa using hc)];rfl
 | p :: t, i + 1, a, hz, hc => by
   rw[jL,if_neg (by simpa using hz p (by simp)),Gn t i (by simpa using a) (fun q b=>hz q (by simp[b])) (by simpa using hc)];rfl
def Gp:ae:=[72,84,84,80,47,49,46,49,32]
def ya:ae:=[67,111,110,116,101,110,116,45,76,101,110,103,116,104,58,32]
def kq (st:Int):ae:=Gp++ba 8 st.toNat++[32]++ib st++[13,10]
def sV (st:Int)(l:aC)(nv:Nat)(body:ae):ae×Nat :=
 if ib st=[] then ([],11) else if 16<=l.length then ([],8) else if nv≠0 then ([],12) else if jL l≠0 then ([],jL l) else (kq st++l.flatMap jx++ya++ba 8 body.length++[13,10,13,10]++body,0)
theorem C7 {l:ae}(h:(aw l).a=0):(aw l).c=0∧(aw l).d=F:=by
 rw[ME l h];exact⟨rfl,rfl⟩
def jr (s:dz)(c:UInt8):Bool:=decide (s.a=0∧s.b≠4∧(df s c).a=0∧(df s c).b=4)
theorem Jp {s:dz}(h:s.a≠0)(c:UInt8):df s c=s:=by unfold df;rw[if_pos h]
def fJ (s:dz):Nat:=if s.a≠0 then s.a else if s.b=4 then 18 else 0
def ip (s:dz):Nat:=if s.b=0 then 0 else if s.b=3 then 2 else 1
def ke (s:dz):Nat:=if s.b=1 then s.c else 0
structure kb (s:dz):Prop where
 e:s.b<=4
 d:qX s.d
 g:s.d.a=0
 a:s.b=1->0<s.c
 b:s.c<=4000
 f:s.f<=4000
 c:s.e<=16
theorem kb.r:kb sv:=⟨ax _,qX.a,rfl,fun h=>(by cases h),ax _,ax _,ax _⟩
theorem kN {s:dz}:fJ s=0<->s.a=0∧s.b≠4:=by grind [fJ]
theorem kb.j {s:dz}(h:kb s)(t:ae):kb (fS s t):=by grind [kb,fS]
theorem kb.q {s:dz}(h:kb s)(c:UInt8):kb (df s c):=by
 have l:=h;obtain⟨f,g,k,i,j,b,d⟩:=h;unfold df;split
 . exact l
 . split
   . exact⟨f,g,k,i,j,b,d⟩
   . split
     . refine⟨?_,g,k,fun e=>?_,(by show s.c-1<=4000;omega),b,d⟩
       . show(if s.c<=1 then 2 else 1)<=4;split <;> omega
       . have m:(if s.c<=1 then 2 else 1)=1:=e;show 0<s.c-1;split at m <;> omega
     . split
       . exact⟨f,g,k,i,j,b,d⟩
       . split
         . exact kb.j (s:={ s with d:=dv }) ⟨f,qX.a,rfl,i,j,b,d⟩ _
         . exact⟨f,xU g,(by rename_i a _;show(bu s.d c).a=0;omega),i,j,b,d⟩
theorem zF (t r:ae)(c:∀b∈t,cG b.toNat=true)(d:t.length<=200):aw (t++13::10::r)=⟨t,t.length+2,true,0⟩:=by
 rw[MJ (t++13::10::r) t.length (by simp) d (fun b e=>c b (by simpa using e))];have a:t.length<(t++13::10::r).length:=by simp
 rw[xT _ _ a];have f:(t++13::10::r)[t.length]=13:=by simp
 have g:t.length+1<(t++13::10::r).length:=by simp
 have i:(t++13::10::r)[t.length+1]=10:=by
  rw[List.getElem_append_right (by omega)];simp
 rw[if_pos f,dif_pos g,if_pos i];simp
theorem C6 {t:ae}(h:∀b∈t,aX.contains b=F):Lib.trimS t aX=t:=by
 have c:∀u:ae,(∀b∈u,aX.contains b=F)->u.dropWhile (aX.contains ·)=u:=by
  intro u d;cases u with
  | nil=>rfl
  | cons a v=>rw[mT,d a (mR ..)];rfl
 unfold Lib.trimS Lib.trimLeftS Lib.trimRightS;rw[c t.reverse (fun b e=>h b (List.mem_reverse.1 e)),List.reverse_reverse,c t h]
theorem Jq (s:dz)(c:UInt8):(iQ s c).length<=1:=by unfold iQ;split <;> simp
open Go.RowKit
theorem xb (l:ae):(Lib.trimS l aX).length<=l.length:=by
 unfold Lib.trimS Lib.trimLeftS Lib.trimRightS;have a:=(tD (l:=(l.reverse.dropWhile (aX.contains ·)).reverse) (aX.contains ·)).length_le;have b:=(tD (l:=l.reverse) (aX.contains ·)).length_le;simp only[List.length_reverse] at a b;omega
theorem JF (l:ae)(c:UInt8):(Lib.indexByte l c=-1∧bg c l=l.length)∨(Lib.indexByte l c=(bg c l:Int)∧bg c l<l.length):=by
 by_cases h:Lib.indexByte l c=-1
 . refine Or.inl ⟨h,DD fun j a e=>?_⟩;exact Lib.indexByte_none h j (by rw[gU a,e])
 . have f:=Lib.indexByte_ge l c;obtain⟨o,d⟩:∃o:Nat,Lib.indexByte l c=o:=⟨(Lib.indexByte l c).toNat,by omega⟩;obtain⟨g,i⟩:=Lib.indexByte_some d;obtain⟨b,k⟩:=fB.1 g;have:=zX b k fun j a e=>i j a (by rw[gU (by omega),e]);refine Or.inr ⟨by rw[d,this],by omega⟩
theorem zY (p q:UInt8->Bool)(h:∀b,q b=true->p b=true):∀l:ae,(l.dropWhile q).all p=l.all p
 | []=>rfl
 | a :: t => by
   rw[mT];cases c:q a
   . rfl
   . rw[if_pos rfl,zY p q h t,po,h a c];rfl
theorem DB (b:UInt8)(h:aX.contains b=true):cG b.toNat=true:=by
 have a:=b.toNat_lt;have:=(show ∀n:Fin 256,aX.contains n.val.toUInt8=true->cG ((n.val.toUInt8).toNat:Int)=true by decide +kernel) ⟨b.toNat,a⟩;have e:b.toNat.toUInt8=b:=by simp
 simp only[e] at this;exact this h
theorem JD (l:ae):cF (Lib.trimS l aX)=cF l:=by
 unfold cF Lib.trimS Lib.trimLeftS Lib.trimRightS;rw[zY _ _ DB,List.all_reverse,zY _ _ DB,List.all_reverse]
theorem DC (l:ae):aP l=if bg 58 l=l.length then gd 5
 else if cT (l.take (bg 58 l))=F then gd 6
 else if 40<bg 58 l then gd 4
 else if cF (Lib.trimS (l.drop (bg 58 l+1)) aX)=F then gd 3
 else ⟨l.take (bg 58 l),Lib.trimS (l.drop (bg 58 l+1)) aX,0⟩:=by
 unfold aP;rw[JD]
theorem JB (n:ae)(h:cT n=true)(j:Nat)(a:j<n.length):n[j]≠58:=by
 intro e;unfold cT at h;rw[gr,pm] at h;have:=h.2 _ (dG a);rw[e] at this;exact absurd this (by decide)
theorem JC (v:ae):Lib.trimS (32::v) aX=Lib.trimS v aX:=by
 rw[<-xj,<-xj];rfl
structure uL (n v:ae):Prop where
 a:cT n=true
 c:n.length<=40
 b:cF v=true
 d:Lib.trimS v aX=v
theorem JE {n v:ae}(h:uL n v)(a:n.length+2+v.length<=200):bz n v=(n++[58,32]++v,0):=by grind [uL,bz]
theorem DA {n v:ae}(h:(bz n v).2=0):uL n v∧n.length+2+v.length<=200:=by grind [bz,uL]
theorem JG {n v:ae}(h:uL n v):aP (n++[58,32]++v)=⟨n,v,0⟩:=by
 have b:(n++[58,32]++v).length=n.length+2+v.length:=by simp;omega
 have a:bg 58 (n++[58,32]++v)=n.length:=by
  refine zX (by omega) ?_ fun j c=>?_
  . simp
  . have:=JB n h.a j c;simpa[List.getElem_append,c] using this
 have d:(n++[58,32]++v).drop (n.length+1)=32::v:=by
  rw[iX,<-oD];simp
 have e:(n++[58,32]++v).take n.length=n:=by rw[iX];simp
 rw[DC,a,d,e,JC,h.d,if_neg (by omega),if_neg (by rw[h.a];simp),if_neg (by have:=h.c;omega),if_neg (by rw[h.b];simp)]
theorem zP (l:ae):(aP l).b.length<=l.length∧(aP l).c.length<=l.length:=by
 unfold aP;split
 . simp[gd]
 . split
   . simp[gd]
   . split
     . simp[gd]
     . split
       . simp[gd]
       . refine⟨List.length_take_le' ..,?_⟩;have:=xb (l.drop (bg 58 l+1));rw[bV] at this;show(Lib.trimS (l.drop (bg 58 l+1)) aX).length<=l.length;omega
theorem Dy (n v:ae):(bz n v).1.length<=n.length+2+v.length:=by grind [bz]
theorem F1 (p:UInt8->Bool)(l:ae):(l.takeWhile p).length<=l.length:=(List.takeWhile_prefix (l:=l) p).length_le
theorem vB (p:UInt8->Bool)(l:ae):(l.dropWhile p).length<=l.length:=(tD (l:=l) p).length_le
theorem F4 (p:UInt8->Bool)(l:ae):(l.takeWhile p).length+(l.dropWhile p).length=l.length:=by
 rw[<-aF,List.takeWhile_append_dropWhile]
theorem Nx {r v r':ae}(h:kZ r=.inr (v,r')):v.length<=r.length∧r'.length<=r.length:=by
 unfold kZ at h;split at h
 . split at h
   . cases h
   . rename_i x a;injection h with h;subst h;have:=FU _ _ _ _ _ (ak _) a;rw[rB] at this;simp only[lD] at this;omega
 . split at h
   . cases h
   . injection h with h;injection h with b c;subst b;subst c;exact⟨F1 _ _,vB _ _⟩
theorem Ny {r r':ae}{p:cZ}(h:kn r=.inr (p,r')):p.1.length<=r.length∧p.2.length<=r.length∧r'.length<=r.length:=by
 unfold kn at h;split at h
 . simp only[] at h;split at h
   . cases h
   . split at h
     . split at h
       . cases h
       . rename_i x a;injection h with h;injection h with b c;subst b;subst c;have d:=Nx (v:=x.1) (r':=x.2) a;rw[rB] at d;have f:=vB dD (r.tail.dropWhile eg);have e:=vB eg r.tail;have g:=F1 dD (r.tail.dropWhile eg);rw[rB] at e;dsimp only;rw[sh];omega
     . cases h
 . cases h
theorem F2 (N:Nat):∀(n:Nat) (r:ae) (a b:List cZ),r.length<=N->(∀p∈a,p.1.length<=N∧p.2.length<=N)->jv n r a=.inr b->∀p∈b,p.1.length<=N∧p.2.length<=N
 | 0, r, a, b, _, ha, h => by
   rw[jv] at h;injection h with h;subst h;exact ha
 | n + 1, r, a, b, e, ha, h => by
   rw[jv] at h;split at h
   . injection h with h;subst h;exact ha
   . split at h
     . cases h
     . rename_i x d;split at h
       . cases h
       . split at h
         . cases h
         . have f:=Ny (p:=x.1) (r':=x.2) d;have g:=vB eg r;refine F2 N n x.2 _ b (by omega) (fun p c=>?_) h;rw[dm,cD] at c;rcases c with c | rfl
           . exact ha p c
           . omega
theorem Nz {l wd r:ae}(h:qZ l=.inr (wd,r)):wd.length<=l.length∧r.length<=l.length:=by
 unfold qZ at h;simp only[] at h;have f:=vB eg l;have g:=F4 dD (l.dropWhile eg);split at h
 . cases h
 . split at h
   . rename_i a;split at h
     . cases h
     . injection h with h;injection h with b c;subst b;subst c;have d:=F4 dD ((l.dropWhile eg).dropWhile dD).tail;rw[rB] at d;have i:0<((l.dropWhile eg).dropWhile dD).length:=by
        cases e:(l.dropWhile eg).dropWhile dD with
        | nil=>rw[e] at a;cases a
        | cons _ _=>simp
       simp only[aF,sh,List.length_singleton];omega
   . injection h with h;injection h with b c;subst b;subst c;rw[sh];omega
theorem A8 {l wd:ae}{b:List cZ}(h:eh l=.inr (wd,b)):wd.length<=l.length∧∀p∈b,p.1.length<=l.length∧p.2.length<=l.length:=by
 unfold eh at h;split at h
 . cases h
 . split at h
   . cases h
   . rename_i x c;unfold kY at h;split at h
     . cases h
     . rename_i d a;injection h with h;injection h with e f;subst e;subst f;obtain⟨g,i⟩:=Nz (wd:=x.1) (r:=x.2) c;exact⟨g,F2 l.length _ _ _ _ i (fun p a=>by cases a) a⟩
theorem Fi (l:ae):∀(t:ae) (i:Nat),(km l i t).b.length<=l.length
 | [],i=>ax _
 | c :: t, i => by
   unfold km;split
   . split
     . exact ax _
     . split
       . show(l.take i).length<=l.length;rw[bP];omega
       . exact ax _
   . split
     . exact ax _
     . split
       . exact ax _
       . split
         . exact ax _
         . exact Fi l t (i+1)
theorem MD (l:ae):(aw l).b.length<=l.length:=Fi l l 0
theorem Fr (t:ae):0<=(dK t).1∧(dK t).1<68719476736:=by
 unfold dK;generalize Lib.trimS (t.take (bg 59 t)) aX=l;unfold bB;split
 . exact⟨ly _,by decide⟩
 . split
   . rename_i a b;have c:¬(6:Int)<l.length:=fun e=>a (Or.inr e);exact sj 16 (by omega) (by omega) l b (by omega)
   . exact⟨ly _,by decide⟩
theorem xg {l:ae}(h:(bB 10 9 l).2=true):0<=(bB 10 9 l).1∧(bB 10 9 l).1<1000000000:=by
 have a:¬(l=[]∨(9:Int)<l.length):=fun e=>by unfold bB at h;rw[if_pos e] at h;cases h
 have ha:l.all (ee 10)=true:=by
  cases e:l.all (ee 10) with
  | true=>rfl
  | false=>unfold bB at h;rw[if_neg a,e] at h;cases h
 unfold bB;rw[if_neg a,if_pos ha];have c:∀(l:ae) (n:Int) (B:Nat),0<=n->n<10 ^ B->l.all (ee 10)=true->0<=l.foldl (fun n b=>n*10+bl b.toNat) n∧l.foldl (fun n b=>n*10+bl b.toNat) n<10 ^ (B+l.length):=by
  intro l;induction l with
  | nil=>intro n B f g _;exact⟨f,g⟩
  | cons b t j =>
    intro n B f g d;rw[po,gr] at d;have i:=d.1;unfold ee at i;rw[gr,bS,bS] at i;have e:(10:Int) ^ (B+1)=10 ^ B*10:=Int.pow_succ ..;have:=j (n*10+bl b.toNat) (B+1) (by omega) (by omega) d.2;simp only[pp,bO];rw[show B+(t.length+1)=B+1+t.length by omega];exact this
 have:=c l 0 0 (by omega) (by decide) ha;refine⟨this.1,Int.lt_of_lt_of_le this.2 ?_⟩;rw[dV];have k:l.length<=9:=by
  rcases fe 9 l.length with e | e
  . exact absurd (Or.inr (by omega)) a
  . exact e
 calc (10:Int) ^ l.length<=10 ^ 9:=by exact_mod_cast Nat.pow_le_pow_right (by decide) k
  _=1000000000:=by decide
