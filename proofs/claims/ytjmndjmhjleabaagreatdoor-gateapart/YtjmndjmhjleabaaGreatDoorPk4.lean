/- Small texts, one behind the other: PlainA, PlainL, PlainN, PlainLT, PlainB, PlainF, PlainCK, PlainUA, PlainUB, PlainP, PlainM, PlainRp, PlainCL, PlainCG, PlainCB, PlainCW, PlainT, PlainG, PlainMT, PlainMB, PlainMD, PlainCO. -/
import Derived.Test.YtjmndjmhjleabaaGreatDoorAl
import Derived.Lib.SlTrimSet
import Derived.Lib.IndexLaws
import Derived.Below
open Option renaming none->U,some->M
open Bool renaming false->F
open Or renaming inl->A,inr->R
namespace Go.Proofs.YtjmndjmhjleabaaGreatDoor.Ch
def digit (c:Int):Bool:=decide (48<=c)&&decide (c<=57)
def capital (c:Int):Bool:=decide (65<=c)&&decide (c<=90)
def letter (c:Int):Bool:=(decide (97<=c)&&decide (c<=122))||capital c
def visible (c:Int):Bool:=c==9||(decide (32<=c)&&c != 127)
def marks:au:=[33,35,36,37,38,39,42,43,45,46,94,95,96,124,126]
def token (c:Int):Bool:=digit c||letter c||decide (0<=Lib.indexByte marks c.toNat.toUInt8)
def oneOf (c:Int)(l:au):Bool:=l.any fun b=>(b.toNat:Int)==c
def hex (c:Int):Int:=if digit c then c-48 else if decide (97<=c)&&decide (c<=102) then c-87 else if decide (65<=c)&&decide (c<=70) then c-55 else -1
theorem IX {p:Int->Bool}(h:(List.range 256).all (fun n=>p (n:Int))=true)(c:Int)(a:0<=c)(b:c<=255):p c=true:=by
 obtain⟨n,rfl⟩:=Int.eq_ofNat_of_zero_le a;exact dM.1 h n (List.mem_range.2 (by omega))
def tokens:au:=[48,49,50,51,52,53,54,55,56,57,65,66,67,68,69,70,71,72,73,74,75,76,77,78,79,80,81,82,83,84,85,86,87,88,89,90,97,98,99,100,101,102,103,104,105,106,107,108,109,110,111,112,113,114,115,116,117,118,119,120,121,122,33,35,36,37,38,39,42,43,45,46,94,95,96,124,126]
theorem IY (c:Int)(a:0<=c)(b:c<=255):oneOf c tokens=token c:=by
 have:=IX (p:=fun c=>oneOf c tokens==token c) (by decide +kernel) c a b;simpa using this
def isToken (l:au):Bool:=!l.isEmpty&&l.all fun b=>token b.toNat
def Df (l:au):Bool:=l.all fun b=>token b.toNat
def iw (l:au):Bool:=l.all fun b=>visible b.toNat
theorem Ra (c:Int)(a:0<=c)(b:c<=255):-1<=hex c∧hex c<=15:=by
 have:=IX (p:=fun c=>decide (-1<=hex c∧hex c<=15)) (by decide +kernel) c a b;simpa using this
theorem Na (c:Int)(l:au)(b:UInt8):oneOf c (l++[b])=(oneOf c l||((b.toNat:Int)==c)):=by
 simp[oneOf]
theorem jq (s:av)(k:Nat)(h:k<s.size):s.data.toList.take (k+1)=s.data.toList.take k++[s[k]]:=by
 rw[bN (by simpa using h)];rfl
theorem kX (s:av)(k:Nat)(h:s.size<=k):s.data.toList.take k=s.data.toList :=
 dN (by simpa using h)
theorem Ka (p:UInt8->Bool)(s:av)(k:Nat)(h:k<s.size)(a:p s[k]=true):s.data.toList.any p=true:=by
 rw[List.any_eq_true];exact⟨s[k],by
  have:s[k]=s.data.toList[k]'(by simpa using h):=rfl;rw[this];exact aB _,a⟩
theorem mF (p:UInt8->Bool)(s:av)(k:Nat)(h:k<s.size)(b:p s[k]=F):s.data.toList.all p=F:=by
 rw[Bool.eq_false_iff,Ne,dM];intro a;have:=a s[k] (by
  have:s[k]=s.data.toList[k]'(by simpa using h):=rfl;rw[this];exact aB _)
 rw[this] at b;cases b
def xZ (base:Int)(b:UInt8):Bool:=decide (0<=hex b.toNat)&&decide (hex b.toNat<base)
def numOf (base:Int)(l:au):Int:=l.foldl (fun n b=>n*base+hex b.toNat) 0
def number (base most:Int)(l:au):Int×Bool :=
 if l=[]∨most<l.length then (0,F) else if l.all (xZ base) then (numOf base l,true) else (0,F)
theorem yJ (a:Int)(l:au)(b:UInt8):numOf a (l++[b])=numOf a l*a+hex b.toNat:=by
 simp[numOf]
theorem rD (b:UInt8):-1<=hex b.toNat∧hex b.toNat<=15:=Ra _ (by omega) (by have:=b.toNat_lt;omega)
theorem Gw (a:Int)(c:0<=a)(d:a<=16):∀(l:au) (n:Int) (B:Nat),0<=n->n<16 ^ B->l.all (xZ a)=true ->
 0<=l.foldl (fun n b=>n*a+hex b.toNat) n∧l.foldl (fun n b=>n*a+hex b.toNat) n<16 ^ (B+l.length)
 | [],n,B,f,g,_=>⟨f,g⟩
 | b :: l, n, B, f, g, hl => by
   rw[dO,cZ] at hl;have i:=rD b;have j:0<=hex b.toNat:=by
    have:=hl.1;unfold xZ at this;rw[cZ] at this;exact dh this.1
   have k:0<=n*a:=Int.mul_nonneg f c;have m:n*a<=n*16:=Int.mul_le_mul_of_nonneg_left d f;have e:(16:Int) ^ (B+1)=16 ^ B*16:=Int.pow_succ ..;have:=Gw a c d l (n*a+hex b.toNat) (B+1) (by omega) (by omega) hl.2;rw[dP,aW,show B+(l.length+1)=B+1+l.length by omega];exact this
theorem mG (a:Int)(b:0<=a)(c:a<=16)(l:au)(d:l.all (xZ a)=true)(f:l.length<=9):0<=numOf a l∧numOf a l<68719476736:=by
 have h:=Gw a b c l 0 0 (aA _) (by decide) d;have:(16:Int) ^ (0+l.length)<=16 ^ 9:=by
  have:(16:Nat) ^ (0+l.length)<=16 ^ 9:=Nat.pow_le_pow_right (by decide) (by omega);exact_mod_cast this
 have e:(16:Int) ^ 9=68719476736:=by decide
 exact⟨h.1,by have:=h.2;unfold numOf;omega⟩
theorem rE (p:UInt8->Bool)(l:au)(b:UInt8):(l++[b]).all p=(l.all p&&p b):=by simp
theorem lG (b a:Int)(l:au)(h:l=[]∨a<l.length):number b a l=(0,F):=by unfold number;rw[if_pos h]
theorem tN (a b:Int)(l:au)(h:l.all (xZ a)=F):number a b l=(0,F):=by
 unfold number;split
 . rfl
 . rw[h];rfl
theorem rF (a b:Int)(l:au)(c:l≠[])(d:¬b<l.length)(h:l.all (xZ a)=true):number a b l=(numOf a l,true):=by
 unfold number;rw[if_neg (by simp[c,d]),h];rfl
theorem iC (s:av):s.data.toList.length=s.size:=by simp
theorem ne_nil (s:av)(h:0<s.size):s.data.toList≠[]:=by
 intro e;have:=iC s;rw[e] at this;simp at this;omega
theorem empty_eq (s:av)(h:s.size=0):s=⟨#[]⟩:=by
 apply ByteArray.ext;exact Array.eq_empty_of_size_eq_zero h
theorem lU (s:av)(h:0<s.size):s.toList.isEmpty=F:=by
 rw[Lib.toList_data];cases a:s.data.toList with
 | nil=>exact absurd a (ne_nil s h)
 | cons _ _=>rfl
def vC (b:UInt8)(j:Nat):UInt8:=if 65<=b.toNat∧b.toNat<65+j then b+32 else b
def qB (b:UInt8):UInt8:=vC b 26
def lower (l:au):au:=l.map qB
theorem P7 (j:Nat)(h:j<26):((⟨#[65,66,67,68,69,70,71,72,73,74,75,76,77,78,79,80,81,82,83,84,85,86,87,88,89,90]⟩:av)[j]'h).toNat=65+j :=
 (show ∀j:Fin 26,((⟨#[65,66,67,68,69,70,71,72,73,74,75,76,77,78,79,80,81,82,83,84,85,86,87,88,89,90]⟩:av)[j.val]'j.isLt).toNat=65+j.val by decide +kernel) ⟨j,h⟩
theorem YD (j:Nat)(h:j<26):((⟨#[97,98,99,100,101,102,103,104,105,106,107,108,109,110,111,112,113,114,115,116,117,118,119,120,121,122]⟩:av).extract j (j+1)).data.toList=[((97+j).toUInt8)] :=
 (show ∀j:Fin 26,((⟨#[97,98,99,100,101,102,103,104,105,106,107,108,109,110,111,112,113,114,115,116,117,118,119,120,121,122]⟩:av).extract j.val (j.val+1)).data.toList=[((97+j.val).toUInt8)] by decide +kernel) ⟨j,h⟩
theorem Rb (b:UInt8)(j:Nat)(h:j<26)(a:(((((⟨#[65,66,67,68,69,70,71,72,73,74,75,76,77,78,79,80,81,82,83,84,85,86,87,88,89,90]⟩:av)[j]'h).toNat:Nat):Int)==(b.toNat:Int))=true):
 ((⟨#[97,98,99,100,101,102,103,104,105,106,107,108,109,110,111,112,113,114,115,116,117,118,119,120,121,122]⟩:av).extract j (j+1)).data.toList=[vC b (j+1)]:=by
 rw[P7 j h] at a;have c:b.toNat=65+j:=by have:=aS.1 a;omega
 rw[YD j h];unfold vC;rw[if_pos (by omega)];have:(97+j).toUInt8=b+32:=by
  apply dQ.1;rw[UInt8.toNat_add,c];simp;omega
 rw[this]
theorem Nb (b:UInt8)(j:Nat)(h:j<26)(a:(((((⟨#[65,66,67,68,69,70,71,72,73,74,75,76,77,78,79,80,81,82,83,84,85,86,87,88,89,90]⟩:av)[j]'h).toNat:Nat):Int)==(b.toNat:Int))=F):
 vC b (j+1)=vC b j:=by
 rw[P7 j h] at a;have d:¬b.toNat=65+j:=by have:=aR.1 a;omega
 unfold vC;by_cases c:65<=b.toNat∧b.toNat<65+j
 . rw[if_pos c,if_pos (by omega)]
 . rw[if_neg c,if_neg (by omega)]
theorem Nc (b:UInt8):vC b 0=b:=by unfold vC;rw[if_neg (by omega)]
theorem vQ (s:av)(k:Nat)(h:k<s.size):(s.extract k (k+1)).data.toList=[s[k]]:=by
 rw[Lib.extract_data,show k+1-k=1 by omega,aC (by simpa using h)];rfl
theorem Nf (l:au)(b:UInt8):lower (l++[b])=lower l++[qB b]:=by simp[lower]
theorem mY (l:au):(lower l).length=l.length:=by simp[lower]
theorem data_append (a b:av):(a++b).data.toList=a.data.toList++b.data.toList:=by simp
theorem str_eq {x:av}{l:au}(h:x.data.toList=l):x=⟨l.toArray⟩:=by
 obtain⟨⟨m⟩⟩:=x;simp only at h;rw[h]
theorem size_of_list {x:av}{l:au}(h:x.data.toList=l):x.size=l.length:=by rw[<-h,iC]
def Cx:au:=[48,49,50,51,52,53,54,55,56,57,97,98,99,100,101,102]
theorem YE (j:Nat)(h:j<16):((⟨#[48,49,50,51,52,53,54,55,56,57,97,98,99,100,101,102]⟩:av).extract j (j+1)).data.toList=[Cx.getD j 0] :=
 (show ∀j:Fin 16,((⟨#[48,49,50,51,52,53,54,55,56,57,97,98,99,100,101,102]⟩:av).extract j.val (j.val+1)).data.toList=[Cx.getD j.val 0] by decide +kernel) ⟨j,h⟩
theorem U2 (b:UInt8)(j:Nat)(h:j<16)(a:qB b=Cx.getD j 0):hex b.toNat=j:=by
 have c:=b.toNat_lt;have:=(show ∀(n:Fin 256) (j:Fin 16),qB n.val.toUInt8=Cx.getD j.val 0->hex ((n.val.toUInt8).toNat:Int)=(j.val:Int) by decide +kernel) ⟨b.toNat,c⟩ ⟨j,h⟩;have e:b.toNat.toUInt8=b:=by simp
 simp only[e] at this;exact this a
theorem Rc (b:UInt8)(a:∀j,j<16->qB b≠Cx.getD j 0):hex b.toNat=-1:=by
 have c:=b.toNat_lt;have:=(show ∀(n:Fin 256),(∀j:Fin 16,qB n.val.toUInt8≠Cx.getD j.val 0)->hex ((n.val.toUInt8).toNat:Int)=-1 by decide +kernel) ⟨b.toNat,c⟩;have e:b.toNat.toUInt8=b:=by simp
 simp only[e] at this;exact this fun j=>a j.val j.isLt
theorem U3 (b:UInt8)(j:Nat)(h:j<16):([qB b]==((⟨#[48,49,50,51,52,53,54,55,56,57,97,98,99,100,101,102]⟩:av).extract j (j+1)).toList)=decide (qB b=Cx.getD j 0):=by
 rw[Lib.toList_data,YE j h];by_cases e:qB b=Cx.getD j 0
 . rw[e];simp
 . rw[aI e];exact aR.2 (fun h=>e (by simpa using h))
theorem Ng (c:Int):oneOf c [48,49,50,51,52,53,54,55,56,57]=digit c:=by
 unfold oneOf digit;simp only[List.any_cons,List.any_nil,Bool.or_false];by_cases h:48<=c∧c<=57
 . rw[aH h.1,aH h.2];have:c=48∨c=49∨c=50∨c=51∨c=52∨c=53∨c=54∨c=55∨c=56∨c=57:=by omega
   rcases this with rfl | rfl | rfl | rfl | rfl | rfl | rfl | rfl | rfl | rfl <;> decide
 . have e:(decide (48<=c)&&decide (c<=57))=F:=by
    by_cases d:48<=c
    . rw[aI (show ¬c<=57 from fun f=>h ⟨d,f⟩)];simp
    . rw[aI d];rfl
   rw[e];have g:∀n:Nat,48<=n->n<=57->((n:Int)==c)=F:=fun n a b=>aR.2 (by omega);simp only[aQ];refine⟨?_,?_,?_,?_,?_,?_,?_,?_,?_,?_⟩ <;> exact g _ (by decide) (by decide)
theorem adX (b:UInt8):xZ 10 b=digit b.toNat:=by
 have a:=b.toNat_lt;have:=IX (p:=fun c=>(decide (0<=hex c)&&decide (hex c<10))==digit c) (by decide +kernel) b.toNat (by omega) (by omega);exact aS.1 this
theorem Gx (b:UInt8):xZ 16 b=decide (0<=hex b.toNat):=by
 have:=rD b;unfold xZ;rw[aH (show hex b.toNat<16 by omega)];simp
end Go.Proofs.YtjmndjmhjleabaaGreatDoor.Ch
namespace Go.Proofs.YtjmndjmhjleabaaGreatDoor.Ln
structure Told where
 text:au
 size:Nat
 ended:Bool
 code:Nat
def open_:Told:=⟨[],0,F,0⟩
def fails (i c:Nat):Told:=⟨[],i,F,c⟩
def go (l:au):Nat->au->Told
 | _,[]=>open_
 | i, c :: t =>
   if c=13 then
    match t with
    | []=>open_
    | d::_=>if d=10 then ⟨l.take i,i+2,true,0⟩ else fails (i+2) 2
   else if c=10 then fails (i+1) 2
   else if Ch.visible c.toNat=F then fails (i+1) 3
   else if i=200 then fails (i+1) 4
   else go l (i+1) t
def of (l:au):Told:=go l 0 l
theorem Dg (l:au)(i:Nat)(h:l.length<=i):go l i (l.drop i)=open_:=by
 rw[aJ h];rfl
theorem Kc (l:au)(i:Nat)(h:i<l.length):go l i (l.drop i) =
 if l[i]=13 then
  (if a:i+1<l.length then (if l[i+1]=10 then ⟨l.take i,i+2,true,0⟩ else fails (i+2) 2) else open_)
 else if l[i]=10 then fails (i+1) 2
 else if Ch.visible l[i].toNat=F then fails (i+1) 3
 else if i=200 then fails (i+1) 4
 else go l (i+1) (l.drop (i+1)):=by
 rw[aC h];show(if l[i]=13 then _ else _)=_;by_cases b:l[i]=13
 . rw[if_pos b,if_pos b];by_cases a:i+1<l.length
   . rw[dif_pos a,aC a]
   . rw[dif_neg a,aJ (by omega)]
 . rw[if_neg b,if_neg b]
structure St where
 line:au
 ending:Bool
 code:Nat
def start:St:=⟨[],F,0⟩
def fault (s:St)(c:UInt8):Nat :=
 if s.ending=(c==10) then (if c=13∨c=10 then 0 else if Ch.visible c.toNat=F then 3 else if 200<=s.line.length then 4 else 0) else 2
def next (s:St)(c:UInt8):St :=
 if s.code≠0 then s
 else if fault s c≠0 then { s with code:=fault s c }
 else if c=10 then ⟨[],F,0⟩
 else if c=13 then { s with ending:=true }
 else { s with line:=s.line++[c] }
def text (s:St)(c:UInt8):au:=if s.code=0∧fault s c=0∧c=10 then s.line else []
def ends (s:St)(c:UInt8):Bool:=decide (s.code=0∧fault s c=0∧c=10)
def begun (s:St):Bool:=s.ending||decide (0<s.line.length)
def came (s:St):au:=s.line++(if s.ending then [13] else [])
structure Good (s:St):Prop where
 seen:∀b∈s.line,Ch.visible b.toNat=true
 short:s.line.length<=200
theorem Good.start:Good start:=⟨fun b h=>by simp[Ln.start] at h,by simp[Ln.start]⟩
theorem aaB:Ch.visible (13:UInt8).toNat=F:=by decide
theorem adY:Ch.visible (10:UInt8).toNat=F:=by decide
theorem tQ {s:St}{c:UInt8}(h:Good s):Good (next s c):=by
 unfold next;split
 . exact h
 . split
   . exact⟨h.seen,h.short⟩
   . split
     . exact Good.start
     . split
       . exact⟨h.seen,h.short⟩
       . rename_i _ a f k;have a:fault s c=0:=by omega
         unfold fault at a;split at a
         . split at a
           . rename_i g;rcases g with e | e <;> contradiction
           . split at a
             . omega
             . split at a
               . omega
               . rename_i _ _ i l;refine⟨fun b d=>?_,by simp;omega⟩;simp at d;rcases d with d | rfl
                 . exact h.seen b d
                 . cases j:Ch.visible (b.toNat:Int)
                   . exact absurd j i
                   . rfl
         . omega
theorem go_skip (l:au)(n:Nat)(j:n<=l.length)(k:n<=200)(d:∀b∈l.take n,Ch.visible b.toNat=true):of l=go l n (l.drop n):=by
 induction n with
 | zero=>rfl
 | succ n f =>
   have a:n<l.length:=by omega
   have g:l[n]∈l.take (n+1):=by
    rw[bN a];exact dR _ (bB.2 rfl)
   have c:=d _ g;rw[f (by omega) (by omega) (fun b i=>d b (by
    rw[bN a];exact bI _ i)),Kc l n a]
   rw[if_neg (fun e=>by rw[e,aaB] at c;cases c),if_neg (fun e=>by rw[e,adY] at c;cases c),if_neg (by rw[c];simp),if_neg (by omega)]
theorem IZ {s:St}(h:Good s)(g:s.code=0)(c:UInt8):
 (of (came s++[c])).text=text s c∧(of (came s++[c])).ended=ends s c∧(of (came s++[c])).code=(next s c).code∧(ends s c=true->(of (came s++[c])).size=(came s).length+1):=by
 have q:=aaB;have e:of (came s++[c])=go (came s++[c]) s.line.length ((came s++[c]).drop s.line.length):=by
  refine go_skip _ _ (by unfold came;simp) h.short (fun b k=>?_);unfold came at k;rw[dS,List.take_left] at k;exact h.seen b k
 rw[e];cases f:s.ending
 . have l:came s++[c]=s.line++[c]:=by unfold came;rw[f];simp
   rw[l,List.drop_left];have m:came s=s.line:=by unfold came;rw[f];simp
   rw[m];show _∧_∧_∧_;unfold go;by_cases n:c=13
   . subst n;have d:fault s 13=0:=by unfold fault;rw[f];rfl
     simp[text,ends,next,d,g,open_]
   . rw[if_neg n];by_cases a:c=10
     . subst a;have d:fault s 10=2:=by unfold fault;rw[f];rfl
       simp[text,ends,next,d,g,fails]
     . rw[if_neg a];have o:s.ending=(c==10):=by rw[f];exact(aR.2 a).symm
       have i:¬(c=13∨c=10):=by rintro (e | e) <;> contradiction
       by_cases j:Ch.visible c.toNat=F
       . have d:fault s c=3:=by unfold fault;rw[if_pos o,if_neg i,if_pos j]
         rw[if_pos j];simp[text,ends,next,d,g,fails]
       . rw[if_neg j];by_cases p:s.line.length=200
         . have d:fault s c=4:=by unfold fault;rw[if_pos o,if_neg i,if_neg j,if_pos (by omega)]
           rw[if_pos p];simp[text,ends,next,d,g,fails]
         . have r:=h.short;have d:fault s c=0:=by unfold fault;rw[if_pos o,if_neg i,if_neg j,if_neg (by omega)]
           rw[if_neg p];simp[text,ends,next,d,g,a,n,go,open_]
 . have l:came s++[c]=s.line++[13,c]:=by unfold came;rw[f];simp
   have m:(came s).length=s.line.length+1:=by unfold came;rw[f];simp
   rw[l,List.drop_left,m];unfold go;rw[if_pos rfl];by_cases a:c=10
   . subst a;have d:fault s 10=0:=by unfold fault;rw[f];rfl
     simp[text,ends,next,d,g]
   . have d:fault s c=2:=by
      unfold fault;rw[f,if_neg (by rw[aR.2 a];simp)]
     simp[text,ends,next,d,g,a,fails]
theorem Rf {s:St}{c:UInt8}(g:s.code=0)(b:(next s c).code=0):came (next s c)=if ends s c then [] else came s++[c]:=by
 unfold next at b ⊢;rw[if_neg (by omega)] at b ⊢;by_cases d:fault s c=0
 . rw[if_neg (by omega)] at b ⊢;by_cases a:c=10
   . subst a;have:ends s 10=true:=by unfold ends;simp[g,d]
     rw[this];rfl
   . have i:ends s c=F:=by unfold ends;simp[a]
     rw[if_neg a,i];have e:s.ending=F:=by
      unfold fault at d;cases j:s.ending
      . rfl
      . rw[j,if_neg (by rw[aR.2 a];simp)] at d;omega
     by_cases f:c=13
     . subst f;rw[if_pos rfl];unfold came;rw[e];simp
     . rw[if_neg f];unfold came;simp[e]
 . rw[if_pos d] at b;exact absurd b d
theorem Nh (s:St):begun s=decide (0<(came s).length):=by
 unfold begun came;cases s.ending <;> simp
theorem Gy {s:St}{c:UInt8}(h:(next s c).code≠0):ends s c=F:=by
 cases a:ends s c
 . rfl
 . unfold ends at a;rw[bQ] at a;obtain⟨d,b,rfl⟩:=a;exact absurd (by unfold next;rw[if_neg (by omega),b];rfl) h
theorem again {s:St}(c:UInt8)(h:s.code≠0):next s c=s∧text s c=[]∧ends s c=F:=by
 refine⟨by unfold next;rw[if_pos h],by unfold text;rw[if_neg (fun e=>h e.1)],by unfold ends;simp[h]⟩
theorem go_size (l:au):∀(t:au) (i:Nat),(go l i t).size=0∨i<(go l i t).size
 | [],i=>A rfl
 | c :: t, i => by
   unfold go;split
   . split
     . exact A rfl
     . split
       . right;show i<i+2;omega
       . right;show i<i+2;omega
   . split
     . right;show i<i+1;omega
     . split
       . right;show i<i+1;omega
       . split
         . right;show i<i+1;omega
         . rcases go_size l t (i+1) with h | h
           . exact A h
           . right;omega
theorem adZ (l:au):∀(d i:Nat),l.length-i=d->i<=l.length->(go l i (l.drop i)).size<=l.length:=by
 intro d;induction d with
 | zero =>
   intro i b c;rw[Dg l i (by omega)];exact ay _
 | succ d e =>
   intro i b c;have a:i<l.length:=by omega
   rw[Kc l i a];split
   . split
     . split
       . show i+2<=_;omega
       . show i+2<=_;omega
     . exact ay _
   . split
     . show i+1<=_;omega
     . split
       . show i+1<=_;omega
       . split
         . show i+1<=_;omega
         . exact e (i+1) (by omega) (by omega)
theorem of_le (l:au):(of l).size<=l.length:=adZ l _ 0 rfl (ay _)
theorem YF (l:au)(k:Nat)(v:k<=l.length):∀(d i:Nat),l.length-i=d->i<=k ->
 go (l.take k) i ((l.take k).drop i)=if 0<(go l i (l.drop i)).size∧(go l i (l.drop i)).size<=k then go l i (l.drop i) else open_:=by
 intro d;induction d with
 | zero =>
   intro i o p;rw[Dg l i (by omega),Dg (l.take k) i (by rw[bX];omega),if_neg (fun h=>by have:=h.1;simp[open_] at this)]
 | succ d q =>
   intro i o p;have g:i<l.length:=by omega
   by_cases j:i=k
   . subst j;rw[Dg (l.take i) i (by rw[bX];omega)];rw[if_neg];rintro ⟨w,b⟩;rcases go_size l (l.drop i) i with h | h <;> omega
   . have r:(l.take k).length=k:=by rw[bX];omega
     have m:i<(l.take k).length:=by omega
     have s:(l.take k)[i]=l[i]:=by simp
     have t:(l.take k).take i=l.take i:=by rw[List.take_take,dU (by omega)]
     rw[Kc (l.take k) i m,Kc l i g,s];by_cases c:l[i]=13
     . rw[if_pos c,if_pos c];by_cases b:i+1<k
       . have n:i+1<(l.take k).length:=by omega
         have e:i+1<l.length:=by omega
         have u:(l.take k)[i+1]=l[i+1]:=by simp
         rw[dif_pos n,dif_pos e,u,t];by_cases a:l[i+1]=10
         . rw[if_pos a,if_pos ⟨by show 0<i+2;omega,by show i+2<=k;omega⟩]
         . rw[if_neg a,if_pos ⟨by show 0<i+2;omega,by show i+2<=k;omega⟩]
       . rw[dif_neg (show ¬i+1<(l.take k).length by omega)];by_cases e:i+1<l.length
         . rw[dif_pos e];by_cases a:l[i+1]=10
           . rw[if_pos a,if_neg (fun h=>by have:i+2<=k:=h.2;omega)]
           . rw[if_neg a,if_neg (fun h=>by have:i+2<=k:=h.2;omega)]
         . rw[dif_neg e,if_neg (fun h=>by have:=h.1;simp[open_] at this)]
     . rw[if_neg c,if_neg c];by_cases a:l[i]=10
       . rw[if_pos a,if_pos a,if_pos ⟨by show 0<i+1;omega,by show i+1<=k;omega⟩]
       . rw[if_neg a,if_neg a];by_cases f:Ch.visible l[i].toNat=F
         . rw[if_pos f,if_pos f,if_pos ⟨by show 0<i+1;omega,by show i+1<=k;omega⟩]
         . rw[if_neg f,if_neg f];by_cases b:i=200
           . rw[if_pos b,if_pos b,if_pos ⟨by show 0<i+1;omega,by show i+1<=k;omega⟩]
           . rw[if_neg b,if_neg b];exact q (i+1) (by omega) (by omega)
theorem I4 (l:au)(k:Nat)(a:k<=l.length):of (l.take k)=if 0<(of l).size∧(of l).size<=k then of l else open_:=YF l k a _ 0 rfl (ay _)
def fold (s:St)(l:au):St:=l.foldl next s
theorem oI (s:St)(l:au)(c:UInt8):fold s (l++[c])=next (fold s l) c:=by simp[fold]
theorem xg (l:au):∀j,j<=l.length->((of l).size=0∨j<(of l).size)->Good (fold start (l.take j))∧(fold start (l.take j)).code=0∧came (fold start (l.take j))=l.take j
 | 0,_,_=>⟨Good.start,rfl,rfl⟩
 | j + 1, i, o => by
   obtain⟨d,f,a⟩:=xg l j (by omega) (by omega);have c:j<l.length:=by omega
   have e:l.take (j+1)=l.take j++[l[j]]:=bN c;have b:=IZ d f l[j];rw[a,<-e,I4 l (j+1) i,if_neg (by omega)] at b;obtain⟨_,k,m,_⟩:=b;have n:ends (fold start (l.take j)) l[j]=F:=k.symm;have g:(next (fold start (l.take j)) l[j]).code=0:=m.symm;rw[e,oI];refine⟨tQ d,g,?_⟩;rw[Rf f g,n,a];rfl
theorem Dh (l:au)(j:Nat)(c:j<l.length)(g:(of l).size=0∨j+1<(of l).size):ends (fold start (l.take j)) l[j]=F∧(next (fold start (l.take j)) l[j]).code=0:=by
 obtain⟨d,f,b⟩:=xg l j (by omega) (by omega);have e:l.take (j+1)=l.take j++[l[j]]:=bN c;have a:=IZ d f l[j];rw[b,<-e,I4 l (j+1) (by omega),if_neg (by omega)] at a;exact⟨a.2.1.symm,a.2.2.1.symm⟩
theorem Gz (l:au)(j:Nat)(c:j<l.length)(g:j+1=(of l).size):ends (fold start (l.take j)) l[j]=(of l).ended∧(next (fold start (l.take j)) l[j]).code=(of l).code∧text (fold start (l.take j)) l[j]=(of l).text:=by
 obtain⟨d,f,b⟩:=xg l j (by omega) (by omega);have e:l.take (j+1)=l.take j++[l[j]]:=bN c;have a:=IZ d f l[j];rw[b,<-e,I4 l (j+1) (by omega),if_pos (by omega)] at a;exact⟨a.2.1.symm,a.2.2.1.symm,a.1.symm⟩
theorem P8 (l:au):∀(t:au) (i:Nat),(go l i t).size=0∨((go l i t).code=0∧(go l i t).ended=true)∨((go l i t).code≠0∧(go l i t).ended=F)
 | [],i=>A rfl
 | c :: t, i => by
   unfold go;split
   . split
     . exact A rfl
     . split
       . exact R (A ⟨rfl,rfl⟩)
       . exact R (R ⟨by show 2≠0;omega,rfl⟩)
   . split
     . exact R (R ⟨by show 2≠0;omega,rfl⟩)
     . split
       . exact R (R ⟨by show 3≠0;omega,rfl⟩)
       . split
         . exact R (R ⟨by show 4≠0;omega,rfl⟩)
         . exact P8 l t (i+1)
theorem CS (l:au):(of l).size=0∨((of l).code=0∧(of l).ended=true)∨((of l).code≠0∧(of l).ended=F):=P8 l l 0
theorem go_open (l:au):∀(t:au) (i:Nat),(go l i t).size=0->go l i t=open_
 | [],i,_=>rfl
 | c :: t, i, h => by
   unfold go at h ⊢;split at h
   . rename_i a;rw[if_pos a];split at h
     . rfl
     . split at h
       . exact absurd (show i+2=0 from h) (by omega)
       . exact absurd (show i+2=0 from h) (by omega)
   . rename_i a;rw[if_neg a];split at h
     . exact absurd (show i+1=0 from h) (by omega)
     . rename_i b;rw[if_neg b];split at h
       . exact absurd (show i+1=0 from h) (by omega)
       . rename_i d;rw[if_neg d];split at h
         . exact absurd (show i+1=0 from h) (by omega)
         . rename_i e;rw[if_neg e];exact go_open l t (i+1) h
theorem YH (l:au)(h:(of l).size=0):of l=open_:=go_open l l 0 h
end Go.Proofs.YtjmndjmhjleabaaGreatDoor.Ln
namespace Go.Proofs.YtjmndjmhjleabaaGreatDoor.Ch
def jG:Nat->Nat->au
 | 0,n=>[(48+n).toUInt8]
 | f+1,n=>if n<10 then [(48+n).toUInt8] else jG f (n / 10)++[(48+n % 10).toUInt8]
theorem jW:∀f n,(jG f n).length<=f+1∧1<=(jG f n).length
 | 0,n=>by simp[jG]
 | f + 1, n => by
   unfold jG;split
   . simp
   . have:=jW f (n / 10);simp;omega
theorem YI (b:UInt8)(h:capital b.toNat=F):qB b=b:=by
 unfold qB vC;rw[if_neg];intro a;unfold capital at h;rw[aH (by omega),aH (by omega)] at h;cases h
theorem U4 (b:UInt8)(h:capital b.toNat=true):((qB b).toNat:Int)=b.toNat-65+97:=by
 unfold capital at h;rw[cZ,bQ,bQ] at h;unfold qB vC;rw[if_pos (by omega),UInt8.toNat_add];have:(32:UInt8).toNat=32:=rfl;rw[this];omega
theorem Di (p:UInt8->Bool)(a:UInt8)(t:au):
 ((a::t).reverse.dropWhile p).reverse=if ((t.reverse.dropWhile p).reverse)=[] then (if p a then [] else [a]) else a::(t.reverse.dropWhile p).reverse:=by
 rw[List.reverse_cons,List.dropWhile_append];by_cases h:(t.reverse.dropWhile p)=[]
 . rw[h];simp[List.dropWhile];cases p a <;> simp
 . have b:(List.dropWhile p t.reverse).isEmpty=F:=by
    cases c:List.dropWhile p t.reverse with
    | nil=>exact absurd c h
    | cons _ _=>rfl
   rw[b];simp[h]
theorem GA (p:UInt8->Bool):∀l:au,(((l.dropWhile p).reverse.dropWhile p).reverse)=((l.reverse.dropWhile p).reverse).dropWhile p
 | []=>rfl
 | a :: t => by
   rw[Di];cases b:p a
   . rw[dV,b];simp only[dH,if_false];rw[Di];split <;> simp[b]
   . rw[dV,b];simp only[if_true];rw[GA p t];split
     . rename_i h;rw[h]
     . rw[dV,b];simp
def ws:au:=[32,9]
theorem GD (l:au):Lib.trimRightS (Lib.trimLeftS l ws) ws=Lib.trimS l ws:=GA (ws.contains ·) l
theorem P9 (b:UInt8):ws.contains b=(((b.toNat:Int)==32)||((b.toNat:Int)==9)):=by
 have a:=b.toNat_lt;have:=(show ∀n:Fin 256,ws.contains n.val.toUInt8=((((n.val.toUInt8).toNat:Int)==32)||(((n.val.toUInt8).toNat:Int)==9)) by decide +kernel) ⟨b.toNat,a⟩;have e:b.toNat.toUInt8=b:=by simp
 simpa only[e] using this
theorem GH (x:av)(h:0<x.size):x.data.toList=x[0]::x.data.toList.drop 1:=by
 have:=aC (l:=x.data.toList) (i:=0) (by simpa using h);rw[List.drop_zero] at this;exact this
theorem GI (x:av)(h:0<x.size):x.data.toList=x.data.toList.take (x.size-1)++[x[x.size-1]]:=by
 have:=jq x (x.size-1) (by omega);rw[<-this,kX x _ (by omega)]
theorem left_step (x:av)(h:0<x.size)(a:ws.contains x[0]=true):Lib.trimLeftS (x.data.toList.drop 1) ws=Lib.trimLeftS x.data.toList ws:=by
 unfold Lib.trimLeftS;conv=>rhs;rw[GH x h,dV,a]
 rfl
theorem left_stop (x:av)(a:∀h:0<x.size,ws.contains (x[0]'h)=F):Lib.trimLeftS x.data.toList ws=x.data.toList:=by
 unfold Lib.trimLeftS;by_cases h:0<x.size
 . rw[GH x h,dV,a h];rfl
 . obtain rfl:=empty_eq x (by omega);rfl
theorem right_step (x:av)(h:0<x.size)(a:ws.contains (x[x.size-1]'(by omega))=true):Lib.trimRightS (x.data.toList.take (x.size-1)) ws=Lib.trimRightS x.data.toList ws:=by
 unfold Lib.trimRightS;conv=>rhs;rw[GI x h,dW,List.reverse_cons,List.reverse_nil,dx,List.singleton_append,dV,a]
 rfl
theorem right_stop (x:av)(a:∀h:0<x.size,ws.contains (x[x.size-1]'(by omega))=F):Lib.trimRightS x.data.toList ws=x.data.toList:=by
 unfold Lib.trimRightS;by_cases h:0<x.size
 . rw[GI x h,dW,List.reverse_cons,List.reverse_nil,dx,List.singleton_append,dV,a h];simp
 . obtain rfl:=empty_eq x (by omega);rfl
end Go.Proofs.YtjmndjmhjleabaaGreatDoor.Ch
namespace Go.Proofs.YtjmndjmhjleabaaGreatDoor.Fd
def at_ (c:UInt8)(l:au):Nat:=l.findIdx (·==c)
theorem U5 (c:UInt8)(l:au):at_ c l<=l.length:=List.findIdx_le_length
theorem CU {c:UInt8}{l:au}(h:at_ c l<l.length):l[at_ c l]=c:=by
 have:=List.findIdx_getElem (w:=h);exact aS.1 this
theorem Dj {c:UInt8}{l:au}{j:Nat}(h:j<at_ c l)(a:j<l.length):l[j]≠c:=by
 have:=List.not_of_lt_findIdx h;intro e;exact absurd (aS.2 e) (by simpa using this)
theorem Qa {c:UInt8}{l:au}(h:∀j (a:j<l.length),l[j]≠c):at_ c l=l.length:=by
 rcases aT (at_ c l) l.length with g | g
 . exact absurd (CU g) (h _ g)
 . exact Nat.le_antisymm (U5 c l) g
theorem aaC {c:UInt8}{l:au}{k:Nat}(a:k<l.length)(h:l[k]=c)(b:∀j (d:j<k),l[j]≠c):at_ c l=k:=by
 rcases Nat.lt_trichotomy (at_ c l) k with g | g | g
 . exact absurd (CU (Nat.lt_trans g a)) (b _ g)
 . exact g
 . exact absurd h (Dj g a)
structure Told where
 name:au
 value:au
 code:Nat
def bad (c:Nat):Told:=⟨[],[],c⟩
def of (l:au):Told :=
 if at_ 58 l=l.length then bad 5
 else if Ch.isToken (l.take (at_ 58 l))=F then bad 6
 else if 40<at_ 58 l then bad 4
 else if Ch.iw (l.drop (at_ 58 l+1))=F then bad 3
 else ⟨l.take (at_ 58 l),Lib.trimS (l.drop (at_ 58 l+1)) Ch.ws,0⟩
def text (n v:au):au×Nat :=
 if Ch.isToken n=F then ([],6)
 else if 40<n.length∨200<n.length+2+v.length then ([],4)
 else if Ch.iw v=F∨Lib.trimS v Ch.ws≠v then ([],3)
 else (n++[58,32]++v,0)
end Go.Proofs.YtjmndjmhjleabaaGreatDoor.Fd
namespace Go.Proofs.YtjmndjmhjleabaaGreatDoor.Ck
structure Told where
 body:au
 used:Nat
 over:Bool
 code:Nat
def size (t:au):Int×Bool:=Ch.number 16 6 (Lib.trimS (t.take (Fd.at_ 59 t)) Ch.ws)
def trail:Nat->au->Nat->Told
 | 0,_,_=>⟨[],0,F,0⟩
 | f + 1, l, n =>
   if (Ln.of l).code≠0∨(Ln.of l).ended=F then ⟨[],(Ln.of l).size,F,(Ln.of l).code⟩
   else if (Ln.of l).text=[] then ⟨[],(Ln.of l).size,true,0⟩
   else if n=16 then ⟨[],(Ln.of l).size,F,8⟩
   else if (Fd.of (Ln.of l).text).code≠0 then ⟨[],(Ln.of l).size,F,(Fd.of (Ln.of l).text).code⟩
   else let r:=trail f (l.drop (Ln.of l).size) (n+1);⟨r.body,(Ln.of l).size+r.used,r.over,r.code⟩
def go:Nat->au->Nat->Told
 | 0,_,_=>⟨[],0,F,0⟩
 | f + 1, l, n =>
   if (Ln.of l).code≠0∨(Ln.of l).ended=F then ⟨[],(Ln.of l).size,F,(Ln.of l).code⟩
   else if (size (Ln.of l).text).2=F then ⟨[],(Ln.of l).size,F,7⟩
   else if 4000<n+(size (Ln.of l).text).1.toNat then ⟨[],(Ln.of l).size,F,4⟩
   else if (size (Ln.of l).text).1.toNat=0 then
    let r:=trail (f+1) (l.drop (Ln.of l).size) 0;⟨r.body,(Ln.of l).size+r.used,r.over,r.code⟩
   else
    let k:=(size (Ln.of l).text).1.toNat
    let d:=l.drop (Ln.of l).size
    if d.length<k then ⟨d,(Ln.of l).size+d.length,F,0⟩
    else
     let e:=d.drop k
     if (Ln.of e).code≠0∨(Ln.of e).ended=F then ⟨d.take k,(Ln.of l).size+k+(Ln.of e).size,F,(Ln.of e).code⟩
     else if (Ln.of e).text≠[] then ⟨d.take k,(Ln.of l).size+k+(Ln.of e).size,F,5⟩
     else let r:=go f (e.drop (Ln.of e).size) (n+k);⟨d.take k++r.body,(Ln.of l).size+k+(Ln.of e).size+r.used,r.over,r.code⟩
def of (l:au):Told:=go (l.length+1) l 0
structure St where
 ph:Nat
 ln:Ln.St
 left:Nat
 total:Nat
 count:Nat
 code:Nat
def start:St:=⟨0,Ln.start,0,0,0,0⟩
def line (s:St)(t:au):St :=
 if s.ph=0 then
  (if (size t).2 = F then { s with code := 7 }
   else if 4000<s.total+(size t).1.toNat then { s with code:=4 }
   else if (size t).1.toNat=0 then { s with ph:=3 }
   else { s with ph:=1,left:=(size t).1.toNat,total:=s.total+(size t).1.toNat })
 else if s.ph=2 then (if t≠[] then { s with code:=5 } else { s with ph:=0 })
 else if t=[] then { s with ph:=4 }
 else if s.count=16 then { s with code:=8 }
 else if (Fd.of t).code≠0 then { s with code:=(Fd.of t).code }
 else { s with count:=s.count+1 }
def next (s:St)(c:UInt8):St :=
 if s.code≠0 then s
 else if s.ph=4 then { s with code:=18 }
 else if s.ph=1 then { s with left:=s.left-1,ph:=if s.left<=1 then 2 else 1 }
 else if (Ln.next s.ln c).code≠0 then { s with code:=(Ln.next s.ln c).code }
 else if Ln.ends s.ln c=true then line { s with ln:=Ln.start } (Ln.text s.ln c)
 else { s with ln:=Ln.next s.ln c }
def out (s:St)(c:UInt8):au:=if s.code=0∧s.ph=1 then [c] else []
def run:St->au->Told
 | _,[]=>⟨[],0,F,0⟩
 | s, c :: t =>
   if (next s c).code≠0 then ⟨out s c,1,F,(next s c).code⟩
   else if (next s c).ph=4 then ⟨out s c,1,true,0⟩
   else ⟨out s c++(run (next s c) t).body,1+(run (next s c) t).used,(run (next s c) t).over,(run (next s c) t).code⟩
structure Same (a b:Told):Prop where
 body:a.body=b.body
 over:a.over=b.over
 code:a.code=b.code
 used:(a.code≠0∨a.over=true)->a.used=b.used
theorem Same.refl (a:Told):Same a a:=⟨rfl,rfl,rfl,fun _=>rfl⟩
def shift (x:au)(k:Nat)(r:Told):Told:=⟨x++r.body,k+r.used,r.over,r.code⟩
theorem Same.shift {a b:Told}(h:Same a b)(x:au)(k:Nat):Same (Ck.shift x k a) (Ck.shift x k b) :=
 ⟨by simp[Ck.shift,h.body],h.over,h.code,fun e=>by show k+a.used=k+b.used;rw[h.used e]⟩
theorem nR (x y:au)(j k:Nat)(r:Told):shift x j (shift y k r)=shift (x++y) (j+k) r:=by
 simp[shift,Nat.add_assoc]
theorem Aq {s:St}{c:UInt8}(t:au)(b:(next s c).code=0)(a:(next s c).ph≠4):run s (c::t)=shift (out s c) 1 (run (next s c) t):=by
 rw[run,if_neg (by omega),if_neg a];rfl
structure nL (s:St):Prop where
 code:s.code=0
 ph:s.ph=0∨s.ph=2∨s.ph=3
 ln:s.ln=Ln.start
theorem YJ {s:St}{x:Ln.St}(h:nL s)(c:UInt8)(a:Ln.ends x c=F)(b:(Ln.next x c).code=0):next { s with ln:=x } c={ s with ln:=Ln.next x c }:=by
 have d:=h.code;have e:=h.ph;unfold next;rw[if_neg (by simpa using d),if_neg (by show ¬s.ph=4;omega),if_neg (by show ¬s.ph=1;omega),if_neg (by simpa using b),if_neg (by simp[a])]
theorem U6 {s:St}{x:Ln.St}(h:nL s)(c:UInt8):out { s with ln:=x } c=[]:=by
 have a:=h.ph;unfold out;rw[if_neg (fun e=>by have:s.ph=1:=e.2;omega)]
theorem Dk {s:St}(h:nL s)(l:au):∀j,j<=l.length->((Ln.of l).size=0∨j<(Ln.of l).size)->run s l=shift [] j (run { s with ln:=Ln.fold Ln.start (l.take j) } (l.drop j))
 | 0, _, _ => by
   have e:{ s with ln:=Ln.fold Ln.start (l.take 0) }=s:=by
    have:=h.ln;cases s;simp only at this;subst this;rfl
   rw[e];simp[shift]
 | j + 1, g, i => by
   have a:j<l.length:=by omega
   rw[Dk h l j (by omega) (by omega),aC a];obtain⟨c,d⟩:=Ln.Dh l j a (by omega);have b:=YJ h l[j] c d;have f:=h.code;have k:=h.ph;rw[Aq _ (by rw[b];exact f) (by rw[b];show s.ph≠4;omega),U6 h,b,nR,dx,bN a,Ln.oI]
theorem U7 {s:St}(h:nL s)(l:au)(a:(Ln.of l).size=0):(run s l).body=[]∧(run s l).over=F∧(run s l).code=0:=by
 rw[Dk h l l.length (aL _) (A a),dX];exact⟨rfl,rfl,rfl⟩
theorem Dl {s:St}(h:nL s)(l:au)(t:0<(Ln.of l).size):run s l =
 if (Ln.of l).code≠0 then ⟨[],(Ln.of l).size,F,(Ln.of l).code⟩
 else if (line s (Ln.of l).text).code≠0 then ⟨[],(Ln.of l).size,F,(line s (Ln.of l).text).code⟩
 else if (line s (Ln.of l).text).ph=4 then ⟨[],(Ln.of l).size,true,0⟩
 else shift [] (Ln.of l).size (run (line s (Ln.of l).text) (l.drop (Ln.of l).size)):=by
 obtain⟨j,k⟩:∃j,(Ln.of l).size=j+1:=⟨(Ln.of l).size-1,by omega⟩;have m:=Ln.of_le l;have c:j<l.length:=by omega
 have n:=h.code;have u:=h.ph;obtain⟨o,p,q⟩:=Ln.Gz l j c k.symm;have g:{ s with ln:=Ln.start }=s:=by
  have:=h.ln;cases s;simp only at this;subst this;rfl
 have r:next { s with ln:=Ln.fold Ln.start (l.take j) } l[j]=if (Ln.of l).code≠0 then { s with ln:=Ln.fold Ln.start (l.take j),code:=(Ln.of l).code } else line s (Ln.of l).text:=by
  unfold next;rw[if_neg (by simpa using n),if_neg (by show ¬s.ph=4;omega),if_neg (by show ¬s.ph=1;omega)];show(if (Ln.next (Ln.fold Ln.start (l.take j)) l[j]).code≠0 then _ else if Ln.ends (Ln.fold Ln.start (l.take j)) l[j]=true then line { s with ln:=Ln.start } (Ln.text (Ln.fold Ln.start (l.take j)) l[j]) else _)=_;rw[p];by_cases b:(Ln.of l).code=0
  . have a:¬(Ln.of l).code≠0:=by omega
    rw[if_neg a,if_neg a,o,q,g];rcases Ln.CS l with e | e | e
    . omega
    . rw[if_pos e.2]
    . exact absurd b e.1
  . rw[if_pos b,if_pos b]
 rw[Dk h l j (by omega) (R (by omega)),aC c,run,r,U6 h,k];by_cases b:(Ln.of l).code=0
 . have a:¬(Ln.of l).code≠0:=by omega
   simp only[if_neg a];by_cases d:(line s (Ln.of l).text).code=0
   . have i:¬(line s (Ln.of l).text).code≠0:=by omega
     simp only[if_neg i];by_cases f:(line s (Ln.of l).text).ph=4
     . rw[if_pos f,if_pos f];simp[shift]
     . rw[if_neg f,if_neg f];simp[shift,Nat.add_assoc]
   . rw[if_pos d,if_pos d];simp[shift]
 . rw[if_pos b];rw[if_pos (show({ s with ln:=Ln.fold Ln.start (l.take j),code:=(Ln.of l).code }:St).code≠0 from b),if_pos b];simp[shift]
theorem GJ (s:St)(b:s.code=0):∀(k:Nat) (l:au),run { s with ph:=1,left:=k+1 } l =
 if l.length<k+1 then ⟨l,l.length,F,0⟩ else shift (l.take (k+1)) (k+1) (run { s with ph:=2,left:=0 } (l.drop (k+1)))
 | k,[]=>by rw[if_pos (by simp)];rfl
 | k, c :: t => by
   have d:out { s with ph:=1,left:=k+1 } c=[c]:=by unfold out;rw[if_pos ⟨b,rfl⟩]
   cases k with
   | zero =>
     have a:next { s with ph:=1,left:=0+1 } c={ s with ph:=2,left:=0 }:=by
      unfold next;rw[if_neg (by simpa using b),if_neg (by show ¬1=4;omega),if_pos rfl];rfl
     rw[Aq t (by rw[a];exact b) (by rw[a];show 2≠4;omega),d,a,if_neg (by simp)];rfl
   | succ k =>
     have a:next { s with ph:=1,left:=k+1+1 } c={ s with ph:=1,left:=k+1 }:=by
      unfold next;rw[if_neg (by simpa using b),if_neg (by show ¬1=4;omega),if_pos rfl];show({ s with ph:=if k+1+1<=1 then 2 else 1,left:=k+1+1-1 }:St)=_;rw[if_neg (by omega)];rfl
     rw[Aq t (by rw[a];exact b) (by rw[a];show 1≠4;omega),d,a,GJ s b k t];by_cases f:t.length<k+1
     . rw[if_pos f,if_pos (by simp;omega)];simp[shift];omega
     . rw[if_neg f,if_neg (by simp;omega),nR];have e:k+1+1=(k+1)+1:=rfl;rw[e,List.take_succ_cons,List.drop_succ_cons,Nat.add_comm 1 (k+1)];rfl
end Go.Proofs.YtjmndjmhjleabaaGreatDoor.Ck
namespace Go.Proofs.YtjmndjmhjleabaaGreatDoor.Sp
structure Up where
 id:Int
 size:Int
 note:av
 bytes:au
 sent:Int
structure St where
 l:List Up
 last:Int
def new:St:=⟨[],0⟩
def used:List Up->Nat
 | []=>0
 | u::t=>u.bytes.length+used t
def place:List Up->Int->Option Nat
 | [],_=>U
 | u::t,id=>if u.id=id then M 0 else (place t id).map (·+1)
def nY (s:St)(id:Int)(f:Nat->Up->St×Nat):St×Nat :=
 match place s.l id with
 | none=>(s,10)
 | some i => match s.l[i]? with
   | none=>(s,10)
   | some u=>f i u
def create (s:St)(size:Int)(m:av):St×Int×Nat :=
 if size < -1 then (s,0,1) else if 2000<size∨100<m.size then (s,0,4) else if Ch.iw m.data.toList=F∨Lib.trimS m.data.toList Ch.ws≠m.data.toList then (s,0,3) else if 12<=s.l.length then (s,0,8)
 else (⟨s.l++[⟨s.last+1,size,m,[],0⟩],s.last+1⟩,s.last+1,0)
def append (s:St)(id off:Int)(b:au):St×Nat:=nY s id fun i u =>
 if u.sent≠0 then (s,19) else if off≠u.bytes.length then (s,17) else if 2000<u.bytes.length+b.length∨(0<=u.size∧u.size<u.bytes.length+b.length) then (s,4) else if 6000<used s.l+b.length then (s,16)
 else (⟨s.l.set i { u with bytes:=u.bytes++b },s.last⟩,0)
def declare (s:St)(id size:Int):St×Nat:=nY s id fun i u =>
 if 0<=u.size then (s,18) else if size<0 then (s,1) else if 2000<size∨size<u.bytes.length then (s,4)
 else (⟨s.l.set i { u with size:=size },s.last⟩,0)
def drop (s:St)(id:Int):St×Nat:=nY s id fun i _=>(⟨s.l.eraseIdx i,s.last⟩,0)
structure ad1 (last:Int)(u:Up):Prop where
 low:1<=u.id
 high:u.id<=last
 GK:-1<=u.size
 Ke:u.size<=2000
 long:u.bytes.length<=2000
 fits:0<=u.size->u.bytes.length<=u.size
 U8:0<=u.sent
 U9:u.sent<=2
 whole:u.sent≠0->u.size=u.bytes.length
 note:u.note.size<=100
structure Ok (s:St):Prop where
 few:s.l.length<=12
 quota:used s.l<=6000
 Dm:0<=s.last
 rise:(s.l.map (·.id)).Pairwise (·<·)
 all:∀u∈s.l,ad1 s.last u
theorem Ok.new:Ok new:=⟨by simp[Sp.new],by simp[Sp.new,used],by simp[Sp.new],by simp[Sp.new],fun u h=>by simp[Sp.new] at h⟩
theorem sI:∀a b:List Up,used (a++b)=used a+used b
 | [],b=>by simp[used]
 | u::t,b=>by rw[dY,used,used,sI t b];omega
theorem Kg:∀(l:List Up) (i:Nat) (u v:Up),l[i]? = M u->used (l.set i v)+u.bytes.length=used l+v.bytes.length
 | [],i,u,v,h=>by simp at h
 | x :: t, 0, u, v, h => by
   have h:x=u:=by simpa using h
   subst h;rw[dZ,used,used];omega
 | x :: t, i + 1, u, v, h => by
   have:=Kg t i u v (by simpa using h);rw[List.set_cons_succ,used,used];omega
theorem Dn:∀(l:List Up) (i:Nat),used (l.eraseIdx i)<=used l
 | [],i=>by simp[used]
 | x::t,0=>by rw[List.eraseIdx_cons_zero,used];omega
 | x::t,i+1=>by have:=Dn t i;rw[List.eraseIdx_cons_succ,used,used];omega
theorem Dp:∀(l:List Up) (a:Int) (i:Nat),place l a=M i->∃u,l[i]? = M u∧u.id=a
 | [],a,i,h=>by cases h
 | x :: t, a, i, h => by
   rw[place] at h;split at h
   . rename_i c;injection h with h;subst h;exact⟨x,rfl,c⟩
   . cases b:place t a with
     | none=>rw[b] at h;cases h
     | some j =>
       rw[b] at h;injection h with h;obtain⟨u,d,e⟩:=Dp t a j b;subst h;exact⟨u,by simpa using d,e⟩
theorem Ok.set {s:St}(h:Ok s){i:Nat}{u v:Up}(c:s.l[i]? = M u)(b:v.id=u.id)(d:ad1 s.last v)(f:used s.l+v.bytes.length<=6000+u.bytes.length):Ok ⟨s.l.set i v,s.last⟩:=by
 refine⟨by simpa using h.few,?_,h.Dm,?_,fun x a=>?_⟩
 . have:=Kg s.l i u v c;show used (s.l.set i v)<=6000;omega
 . have:(s.l.set i v).map (·.id)=s.l.map (·.id):=by
    rw[List.map_set,b];refine List.ext_getElem? fun k=>?_;rw[eu];split
    . rename_i e;subst e;split
      . rw[dA,c];rfl
      . rename_i g;rw[eG (by omega)]
    . rfl
   show((s.l.set i v).map (·.id)).Pairwise (·<·);rw[this];exact h.rise
 . rcases List.mem_or_eq_of_mem_set a with a | a
   . exact h.all x a
   . subst a;exact d
theorem Ok.at_ {s:St}(h:Ok s){a:Int}{f:Nat->Up->St×Nat}(b:∀i u,s.l[i]? = M u->Ok (f i u).1):Ok (nY s a f).1:=by
 unfold nY;split
 . exact h
 . split
   . exact h
   . rename_i i d _ u c;exact b i u c
theorem Ok.create {s:St}(h:Ok s)(size:Int)(m:av):Ok (create s size m).1:=by
 unfold Sp.create;split
 . exact h
 . split
   . exact h
   . split
     . exact h
     . split
       . exact h
       . rename_i f g _ i;have j:=h.Dm;refine⟨by simp;omega,?_,by show 0<=s.last+1;omega,?_,fun u c=>?_⟩
         . show used (s.l++[_])<=6000;rw[sI];have:=h.quota;simp[used];omega
         . show((s.l++[(⟨s.last+1,size,m,[],0⟩:Up)]).map (·.id)).Pairwise (·<·);rw[bF,List.pairwise_append];refine⟨h.rise,by simp,fun a ha b d=>?_⟩;obtain⟨u,c,rfl⟩:=aM.1 ha;have:=(h.all u c).high;simp at d;subst d;show u.id<s.last+1;omega
         . rcases bA.1 c with c | c
           . have:=h.all u c;exact⟨this.low,by have:=this.high;show u.id<=s.last+1;omega,this.GK,this.Ke,this.long,this.fits,this.U8,this.U9,this.whole,this.note⟩
           . rw[bB.1 c];exact⟨by show 1<=s.last+1;omega,aA _,by show -1<=size;omega,by show size<=2000;omega,by simp,fun e=>by simpa using e,by simp,by simp,fun e=>absurd rfl e,by show m.size<=100;omega⟩
theorem Ok.append {s:St}(h:Ok s)(f c:Int)(b:au):Ok (append s f c b).1:=by
 refine h.at_ fun i u d=>?_;have a:=h.all u (dK d);have j:=h.quota;split
 . exact h
 . split
   . exact h
   . split
     . exact h
     . split
       . exact h
       . rename_i g k l m;refine h.set d rfl ⟨a.low,a.high,a.GK,a.Ke,by simp;omega,fun e=>?_,a.U8,a.U9,fun e=>absurd e (by simpa using g),a.note⟩ (by simp;omega);have n:0<=u.size:=e;simp only[aV];omega
theorem Ok.declare {s:St}(h:Ok s)(c size:Int):Ok (declare s c size).1:=by
 refine h.at_ fun i u b=>?_;have a:=h.all u (dK b);have d:=h.quota;split
 . exact h
 . split
   . exact h
   . split
     . exact h
     . rename_i f g j;refine h.set b rfl ⟨a.low,a.high,by show -1<=size;omega,by show size<=2000;omega,a.long,fun _=>by show(u.bytes.length:Int)<=size;omega,a.U8,a.U9,fun e=>?_,a.note⟩ (by show used s.l+u.bytes.length<=_;omega);have:=a.whole e;omega
theorem Ok.drop {s:St}(h:Ok s)(a:Int):Ok (drop s a).1:=by
 refine h.at_ fun i u c=>?_;refine⟨dF (List.length_eraseIdx_le ..) h.few,dF (Dn s.l i) h.quota,h.Dm,?_,fun x b=>h.all x (List.mem_of_mem_eraseIdx b)⟩;show((s.l.eraseIdx i).map (·.id)).Pairwise (·<·);exact h.rise.sublist ((List.eraseIdx_sublist s.l i).map _)
theorem GL (l:List Up)(k:Nat)(h:k<l.length):used (l.take (k+1))=used (l.take k)+l[k].bytes.length:=by
 rw[bN h,sI];simp[used]
theorem Qb (l:List Up)(k:Nat):used (l.take k)<=used l:=by
 conv=>rhs;rw[<-bW k l,sI]
 omega
theorem Va (l:List Up)(k:Nat)(h:k<l.length):l[k].bytes.length<=used l:=by
 have a:=GL l k h;have b:=Qb l (k+1);omega
theorem Kh:∀(l:List Up) (a:Int) (k:Nat) (h:k<l.length),l[k].id=a->(∀u∈l.take k,u.id≠a)->place l a=M k
 | x::t,a,0,_,e,_=>by rw[place,if_pos (by simpa using e)]
 | x :: t, a, k + 1, h, e, hn => by
   rw[place,if_neg (hn x (by simp)),Kh t a k (by simpa using h) (by simpa using e) (fun u b=>hn u (by simp[b]))];rfl
theorem Ki:∀(l:List Up) (a:Int),(∀u∈l,u.id≠a)->place l a=U
 | [],_,_=>rfl
 | x :: t, a, hn => by
   rw[place,if_neg (hn x (by simp)),Ki t a (fun u b=>hn u (by simp[b]))];rfl
theorem tT {l:List Up}{a:Int}{i:Nat}(h:place l a=M i):i<l.length:=by
 obtain⟨u,b,_⟩:=Dp l a i h;exact(aP.1 b).1
theorem Ar {s:St}{a:Int}{f:Nat->Up->St×Nat}(h:place s.l a=U):nY s a f=(s,10):=by
 unfold nY;rw[h]
theorem Au {s:St}{a:Int}{f:Nat->Up->St×Nat}{i:Nat}(h:place s.l a=M i):nY s a f=f i (s.l[i]'(tT h)):=by
 unfold nY;rw[h];simp only[dB (tT h)]
def pl (l:List Up)(id:Int):Int:=match place l id with
 | none=>-1
 | some i=>i
theorem zo {l:List Up}{a:Int}(h:place l a=U):pl l a=-1:=by unfold pl;rw[h]
theorem zq {l:List Up}{a:Int}{i:Nat}(h:place l a=M i):pl l a=i:=by unfold pl;rw[h]
theorem Dq (s:St)(size:Int)(m:av):(create s size m).1.last<=s.last+1:=by
 unfold create;split
 . show s.last<=_;omega
 . split
   . show s.last<=_;omega
   . split
     . show s.last<=_;omega
     . split
       . show s.last<=_;omega
       . exact aA _
theorem Av (s:St)(a:Int)(f:Nat->Up->St×Nat)(b:∀i u,(f i u).1.last=s.last):(nY s a f).1.last=s.last:=by
 unfold nY;split
 . rfl
 . split
   . rfl
   . exact b _ _
theorem Kj (s:St)(c a:Int)(b:au):(append s c a b).1.last=s.last:=Av s c _ fun i u=>by
 split
 . rfl
 . split
   . rfl
   . split
     . rfl
     . split <;> rfl
theorem I5 (s:St)(a size:Int):(declare s a size).1.last=s.last:=Av s a _ fun i u=>by
 split
 . rfl
 . split
   . rfl
   . split <;> rfl
theorem Rh (s:St)(a:Int):(drop s a).1.last=s.last:=Av s a _ fun _ _=>rfl
def zu (s:St)(off:Int)(b:au)(i:Nat)(u:Up):St×Nat :=
 if u.sent≠0 then (s,19) else if off≠u.bytes.length then (s,17) else if 2000<u.bytes.length+b.length∨(0<=u.size∧u.size<u.bytes.length+b.length) then (s,4) else if 6000<used s.l+b.length then (s,16)
 else (⟨s.l.set i { u with bytes:=u.bytes++b },s.last⟩,0)
def jG (s:St)(size:Int)(i:Nat)(u:Up):St×Nat :=
 if 0<=u.size then (s,18) else if size<0 then (s,1) else if 2000<size∨size<u.bytes.length then (s,4)
 else (⟨s.l.set i { u with size:=size },s.last⟩,0)
def Vb (s:St)(i:Nat)(_:Up):St×Nat:=(⟨s.l.eraseIdx i,s.last⟩,0)
theorem Vd (s:St)(c a:Int)(b:au):append s c a b=nY s c (zu s a b):=rfl
theorem Ri (s:St)(a size:Int):declare s a size=nY s a (jG s size):=rfl
theorem abu (s:St)(a:Int):drop s a=nY s a (Vb s):=rfl
end Go.Proofs.YtjmndjmhjleabaaGreatDoor.Sp
namespace Go.Proofs.YtjmndjmhjleabaaGreatDoor.Pm
def blank (c:UInt8):Bool:=c==32||c==9
def tok (c:UInt8):Bool:=Ch.token c.toNat
def run (p:UInt8->Bool)(l:au)(i:Nat):Nat:=((l.drop i).takeWhile p).length
theorem Km {p:UInt8->Bool}{l:au}{i:Nat}(h:i<l.length)(a:p l[i]=true):run p l i=1+run p l (i+1):=by
 unfold run;rw[aC h,eU,a];simp only[if_true,aW];omega
theorem Kn {p:UInt8->Bool}{l:au}{i:Nat}(h:i<l.length)(a:p l[i]=F):run p l i=0:=by
 unfold run;rw[aC h,eU,a];rfl
theorem run_end (p:UInt8->Bool){l:au}{i:Nat}(h:l.length<=i):run p l i=0:=by
 unfold run;rw[aJ h];rfl
theorem Vg (p:UInt8->Bool)(l:au)(i:Nat)(h:i<=l.length):i+run p l i<=l.length:=by
 unfold run;have:=(List.takeWhile_prefix (l:=l.drop i) p).length_le;rw[bU] at this;omega
def blanks (l:au)(i:Nat):Nat:=i+run blank l i
def word (l:au)(i:Nat):Nat:=run tok l i
theorem Ko (p:UInt8->Bool)(l:au)(i:Nat):l.drop (i+run p l i)=(l.drop i).dropWhile p:=by
 unfold run;rw[<-eX];generalize l.drop i=t;induction t with
 | nil=>rfl
 | cons a t b =>
   rw[eU,dV];cases p a
   . rfl
   . simpa using b
theorem Vh (p:UInt8->Bool)(l:au)(i:Nat):(l.drop i).take (run p l i)=(l.drop i).takeWhile p:=by
 unfold run;generalize l.drop i=t;induction t with
 | nil=>rfl
 | cons a t b =>
   rw[eU];cases p a
   . rfl
   . simpa using b
abbrev tK:=au×au
def quo:au->au->Option (au×au)
 | _,[]=>U
 | acc,c::t=>if c=34 then M (acc,t) else if c=92 then (match t with
  | []=>U
  | d::t'=>quo (acc++[d]) t') else quo (acc++[c]) t
theorem I7 (a:au):quo a []=U:=by unfold quo;rfl
theorem Qc (a t:au):quo a (34::t)=M (a,t):=by unfold quo;rw[if_pos rfl]
theorem zw (a:au):quo a [92]=U:=by unfold quo;rw[if_neg (by decide),if_pos rfl]
theorem Kq (a:au)(d:UInt8)(t:au):quo a (92::d::t)=quo (a++[d]) t:=by rw[quo,if_neg (by decide),if_pos rfl]
theorem Kr (a:au)(c:UInt8)(t:au)(b:c≠34)(d:c≠92):quo a (c::t)=quo (a++[c]) t:=by rw[quo.eq_def];simp only[];rw[if_neg b,if_neg d]
theorem GQ (n:Nat):∀(a t v r:au),t.length<=n->quo a t=M (v,r)->r.length<t.length∧v.length<=a.length+t.length:=by
 induction n with
 | zero =>
   intro a t v r h e;obtain rfl:t=[]:=dn (by omega);rw[I7] at e;cases e
 | succ n b =>
   intro a t v r h e;cases t with
   | nil=>rw[I7] at e;cases e
   | cons c t =>
     by_cases f:c=34
     . subst f;rw[Qc] at e;injection e with e;injection e with i j;subst i;subst j;simp
     . by_cases g:c=92
       . subst g;cases t with
         | nil=>rw[zw] at e;cases e
         | cons d t =>
           rw[Kq] at e;have:=b _ _ _ _ (by simp at h ⊢;omega) e;simp at this ⊢;omega
       . rw[Kr _ _ _ f g] at e;have:=b _ _ _ _ (by simp at h ⊢;omega) e;simp at this ⊢;omega
def val (r:au):Nat ⊕ (au×au) :=
 if r.head? = M 34 then (match quo [] r.tail with
  | none=>.inl 14
  | some x=>.inr x)
 else if r.takeWhile tok=[] then .inl 5 else .inr (r.takeWhile tok,r.dropWhile tok)
def par (r:au):Nat ⊕ (tK×au) :=
 if r.head? = M 59 then
  let r2:=r.tail.dropWhile blank
  if r2.takeWhile tok=[] then .inl 5
  else if (r2.dropWhile tok).head? = M 61 then (match val (r2.dropWhile tok).tail with
   | .inl c=>.inl c
   | .inr x=>.inr ((Ch.lower (r2.takeWhile tok),x.1),x.2))
  else .inl 5
 else .inl 5
def uF:Nat->au->List tK->Nat ⊕ List tK
 | 0,_,acc=>.inr acc
 | n + 1, r, acc =>
   if r.dropWhile blank=[] then .inr acc
   else match par (r.dropWhile blank) with
    | .inl c=>.inl c
    | .inr x=>if acc.any (fun q=>q.1==x.1.1) then .inl 9 else if acc.length=8 then .inl 8 else uF n x.2 (acc++[x.1])
def wrd (l:au):Nat ⊕ (au×au) :=
 let r:=l.dropWhile blank
 if r.takeWhile tok=[] then .inl 5
 else if (r.dropWhile tok).head? = M 47 then
  (if (r.dropWhile tok).tail.takeWhile tok = [] then .inl 5
   else .inr (Ch.lower (r.takeWhile tok)++[47]++Ch.lower ((r.dropWhile tok).tail.takeWhile tok),(r.dropWhile tok).tail.dropWhile tok))
 else .inr (Ch.lower (r.takeWhile tok),r.dropWhile tok)
def fin (n:Nat)(wd r:au)(acc:List tK):Nat ⊕ (au×List tK):=match uF n r acc with
 | .inl c=>.inl c
 | .inr ps=>.inr (wd,ps)
def kr (l:au):Nat ⊕ (au×List tK) :=
 if Ch.iw l=F then .inl 3
 else match wrd l with
  | .inl c=>.inl c
  | .inr x=>fin (l.length+1) x.1 x.2 []
/-! ### by places in a text -/
theorem vR (l:au)(i:Nat):(l.drop i).dropWhile blank=l.drop (blanks l i):=(Ko blank l i).symm
theorem Ay (l:au)(i:Nat):(l.drop i).dropWhile tok=l.drop (i+word l i):=(Ko tok l i).symm
theorem xw (l:au)(i:Nat):(l.drop i).takeWhile tok=(l.drop i).take (word l i):=(Vh tok l i).symm
theorem Vi (l:au)(i:Nat):(l.drop i).takeWhile tok=[]<->word l i=0:=by
 unfold word run;constructor
 . intro h;rw[h];rfl
 . intro h;exact dn h
theorem Az (l:au)(i:Nat):((l.drop i).take (word l i)=[])=(word l i=0):=by
 rw[<-xw];exact propext (Vi l i)
theorem xA (l:au)(i:Nat)(h:i<=l.length):blanks l i<=l.length:=Vg blank l i h
theorem GR (l:au)(i:Nat):i<=blanks l i:=dI _ _
theorem zx (l:au)(i:Nat)(h:i<=l.length):i+word l i<=l.length:=Vg tok l i h
theorem abw (l:au)(i:Nat):val (l.drop i) =
 if l[i]? = M 34 then (match quo [] (l.drop (i+1)) with
  | none=>.inl 14
  | some x=>.inr x)
 else if word l i=0 then .inl 5 else .inr ((l.drop i).take (word l i),l.drop (i+word l i)):=by
 unfold val;simp only[List.head?_drop,List.tail_drop,xw,Ay,Az]
theorem abx (l:au)(i:Nat):par (l.drop i) =
 if l[i]? = M 59 then
  (if word l (blanks l (i + 1)) = 0 then .inl 5
   else if l[blanks l (i+1)+word l (blanks l (i+1))]? = M 61 then (match val (l.drop (blanks l (i+1)+word l (blanks l (i+1))+1)) with
    | .inl c=>.inl c
    | .inr x=>.inr ((Ch.lower ((l.drop (blanks l (i+1))).take (word l (blanks l (i+1)))),x.1),x.2))
   else .inl 5)
 else .inl 5:=by
 unfold par;simp only[List.head?_drop,List.tail_drop,vR,Ay,xw,Az]
theorem YM (l:au)(n i:Nat)(a:List tK)(b:i<=l.length):uF (n+1) (l.drop i) a =
 if blanks l i=l.length then .inr a
 else match par (l.drop (blanks l i)) with
  | .inl c=>.inl c
  | .inr x=>if a.any (fun q=>q.1==x.1.1) then .inl 9 else if a.length=8 then .inl 8 else uF n x.2 (a++[x.1]):=by
 have d:=xA l i b;rw[uF,vR];by_cases h:blanks l i=l.length
 . rw[if_pos h,if_pos (by rw[h,dX])]
 . rw[if_neg h,if_neg (fun e=>h (by have:=bD List.length e;rw[bU] at this;simp at this;omega))]
theorem aby (l:au):wrd l =
 if word l (blanks l 0)=0 then .inl 5
 else if l[blanks l 0+word l (blanks l 0)]? = M 47 then
  (if word l (blanks l 0 + word l (blanks l 0) + 1) = 0 then .inl 5
   else .inr (Ch.lower ((l.drop (blanks l 0)).take (word l (blanks l 0)))++[47]++Ch.lower ((l.drop (blanks l 0+word l (blanks l 0)+1)).take (word l (blanks l 0+word l (blanks l 0)+1))),l.drop (blanks l 0+word l (blanks l 0)+1+word l (blanks l 0+word l (blanks l 0)+1))))
 else .inr (Ch.lower ((l.drop (blanks l 0)).take (word l (blanks l 0))),l.drop (blanks l 0+word l (blanks l 0))):=by
 unfold wrd;have e:l.dropWhile blank=l.drop (blanks l 0):=by have:=vR l 0;rwa[List.drop_zero] at this
 simp only[e,Ay,List.head?_drop,List.tail_drop,xw,Az]
theorem Vj (l:au)(e:Ch.iw l=true)(b a:Nat)(f:blanks l 0=b)(g:word l b=a):kr l =
 if a=0 then .inl 5
 else if l[b+a]? = M 47 then
  (if word l (b + a + 1) = 0 then .inl 5
   else fin (l.length+1) (Ch.lower ((l.drop b).take a)++[47]++Ch.lower ((l.drop (b+a+1)).take (word l (b+a+1)))) (l.drop (b+a+1+word l (b+a+1))) [])
 else fin (l.length+1) (Ch.lower ((l.drop b).take a)) (l.drop (b+a)) []:=by
 unfold kr;rw[if_neg (by rw[e];simp),aby,f,g];by_cases h:a=0
 . rw[if_pos h,if_pos h]
 . rw[if_neg h,if_neg h];by_cases c:l[b+a]? = M 47
   . rw[if_pos c,if_pos c];by_cases d:word l (b+a+1)=0
     . rw[if_pos d,if_pos d]
     . rw[if_neg d,if_neg d]
   . rw[if_neg c,if_neg c]
theorem fin_at (l:au)(n i:Nat)(wd:au)(a:List tK)(e:i<=l.length):fin (n+1) wd (l.drop i) a =
 if blanks l i=l.length then .inr (wd,a)
 else match par (l.drop (blanks l i)) with
  | .inl c=>.inl c
  | .inr x=>if a.any (fun q=>q.1==x.1.1) then .inl 9 else if a.length=8 then .inl 8 else fin n wd x.2 (a++[x.1]):=by
 unfold fin;rw[YM l n i a e];by_cases h:blanks l i=l.length
 . rw[if_pos h,if_pos h]
 . rw[if_neg h,if_neg h];cases par (l.drop (blanks l i)) with
   | inl c=>rfl
   | inr x =>
     simp only[];by_cases b:(a.any fun q=>q.1==x.1.1)=true
     . rw[if_pos b,if_pos b]
     . rw[if_neg b,if_neg b];by_cases d:a.length=8
       . rw[if_pos d,if_pos d]
       . rw[if_neg d,if_neg d]
end Go.Proofs.YtjmndjmhjleabaaGreatDoor.Pm
namespace Go.Proofs.YtjmndjmhjleabaaGreatDoor.Rp
def tab:List (Int×au):=[(200,[79,75]),(201,[67,114,101,97,116,101,100]),(204,[78,111,32,67,111,110,116,101,110,116]),(400,[66,97,100,32,82,101,113,117,101,115,116]),(404,[78,111,116,32,70,111,117,110,100]),(405,[77,101,116,104,111,100,32,78,111,116,32,65,108,108,111,119,101,100]),(409,[67,111,110,102,108,105,99,116]),(412,[80,114,101,99,111,110,100,105,116,105,111,110,32,70,97,105,108,101,100]),(413,[67,111,110,116,101,110,116,32,84,111,111,32,76,97,114,103,101]),(415,[85,110,115,117,112,112,111,114,116,101,100,32,77,101,100,105,97,32,84,121,112,101]),(507,[73,110,115,117,102,102,105,99,105,101,110,116,32,83,116,111,114,97,103,101])]
def look:List (Int×au)->Int->au
 | [],_=>[]
 | p::t,n=>if p.1=n then p.2 else look t n
def word (n:Int):au:=look tab n
theorem CX:∀(l:List (Int×au)) (n:Int),(∀p∈l,p.1≠n)->look l n=[]
 | [],_,_=>rfl
 | p::t,n,hn=>by rw[look,if_neg (hn p (by simp)),CX t n (fun q a=>hn q (by simp[a]))]
theorem Vr {n:Int}(h:word n≠[]):200<=n∧n<=507:=by
 by_cases c:∀p∈tab,p.1≠n
 . exact absurd (CX tab n c) h
 . have:∃p,p∈tab∧p.1=n:=by
    apply eY;intro d;exact c (fun p b e=>d ⟨p,b,e⟩)
   obtain⟨p,b,rfl⟩:=this;have a:∀q∈tab,200<=q.1∧q.1<=507:=by decide
   exact a p b
theorem Ku (n:Int):(word n).length<=22:=by
 by_cases c:∀p∈tab,p.1≠n
 . rw[word,CX tab n c];decide
 . have:∃p,p∈tab∧p.1=n:=by
    apply eY;intro d;exact c (fun p b e=>d ⟨p,b,e⟩)
   obtain⟨p,b,rfl⟩:=this;have a:∀q∈tab,(look tab q.1).length<=22:=by decide
   exact a p b
def pG (p:av×av):au:=(Fd.text p.1.data.toList p.2.data.toList).1++[13,10]
def code:ak->Nat
 | []=>0
 | p::t=>if (Fd.text p.1.data.toList p.2.data.toList).2≠0 then (Fd.text p.1.data.toList p.2.data.toList).2 else code t
theorem GV:∀(l:ak),(∀p∈l,(Fd.text p.1.data.toList p.2.data.toList).2=0)->code l=0
 | [],_=>rfl
 | p::t,h=>by rw[code,if_neg (by simpa using h p (by simp)),GV t (fun q a=>h q (by simp[a]))]
theorem Kv:∀(l:ak) (i:Nat) (a:i<l.length),(∀p∈l.take i,(Fd.text p.1.data.toList p.2.data.toList).2=0)->(Fd.text l[i].1.data.toList l[i].2.data.toList).2≠0->code l=(Fd.text l[i].1.data.toList l[i].2.data.toList).2
 | p::t,0,_,_,hc=>by rw[code,if_pos (by simpa using hc)];rfl
 | p :: t, i + 1, a, hz, hc => by
   rw[code,if_neg (by simpa using hz p (by simp)),Kv t i (by simpa using a) (fun q b=>hz q (by simp[b])) (by simpa using hc)];rfl
def h11:au:=[72,84,84,80,47,49,46,49,32]
def cl:au:=[67,111,110,116,101,110,116,45,76,101,110,103,116,104,58,32]
def first (st:Int):au:=h11++Ch.jG 8 st.toNat++[32]++word st++[13,10]
def text (st:Int)(l:ak)(nv:Nat)(body:au):au×Nat :=
 if word st=[] then ([],11) else if 16<=l.length then ([],8) else if nv≠0 then ([],12) else if code l≠0 then ([],code l) else (first st++l.flatMap pG++cl++Ch.jG 8 body.length++[13,10,13,10]++body,0)
end Go.Proofs.YtjmndjmhjleabaaGreatDoor.Rp
namespace Go.Proofs.YtjmndjmhjleabaaGreatDoor.Ck
theorem oW {l:au}(h:(Ln.of l).size=0):(Ln.of l).code=0∧(Ln.of l).ended=F:=by
 rw[Ln.YH l h];exact⟨rfl,rfl⟩
theorem zy {l:au}(h:0<(Ln.of l).size)(b:(Ln.of l).code=0):(Ln.of l).ended=true:=by
 rcases Ln.CS l with a | a | a
 . omega
 . exact a.2
 . exact absurd b a.1
theorem AJ {s:St}(h:nL s){l:au}(a:(Ln.of l).size=0):Same ⟨[],(Ln.of l).size,F,(Ln.of l).code⟩ (run s l):=by
 obtain⟨b,c,d⟩:=U7 h l a;have:=(oW a).1;exact⟨b.symm,c.symm,by rw[d];exact this,fun e=>by rcases e with e | e <;> simp_all⟩
theorem GX:∀(f:Nat) (l:au) (s:St),l.length<f->nL s->s.ph=3->Same (trail f l s.count) (run s l)
 | 0,l,s,n,_,_=>by omega
 | f + 1, l, s, n, h, o => by
   rw[trail];by_cases j:(Ln.of l).size=0
   . have:=oW j;rw[if_pos (R this.2)];exact AJ h j
   . have k:0<(Ln.of l).size:=by omega
     have p:=Ln.of_le l;rw[Dl h l k];by_cases d:(Ln.of l).code=0
     . have q:=zy k d;have r:¬((Ln.of l).code≠0∨(Ln.of l).ended=F):=by rw[q,d];simp
       have g:¬(Ln.of l).code≠0:=by omega
       rw[if_neg r,if_neg g];have m:line s (Ln.of l).text=if (Ln.of l).text=[] then { s with ph:=4 } else if s.count=16 then { s with code:=8 } else if (Fd.of (Ln.of l).text).code≠0 then { s with code:=(Fd.of (Ln.of l).text).code } else { s with count:=s.count+1 }:=by
        unfold line;rw[if_neg (by omega),if_neg (by omega)]
       by_cases e:(Ln.of l).text=[]
       . rw[if_pos e,m,if_pos e];have i:¬({ s with ph:=4 }:St).code≠0:=by have:=h.code;simpa using this
         rw[if_neg i,if_pos rfl];exact Same.refl _
       . rw[if_neg e,m,if_neg e];by_cases a:s.count=16
         . rw[if_pos a,if_pos a,if_pos (show({ s with code:=8 }:St).code≠0 by show 8≠0;omega)];exact Same.refl _
         . rw[if_neg a,if_neg a];by_cases b:(Fd.of (Ln.of l).text).code=0
           . have c:¬(Fd.of (Ln.of l).text).code≠0:=by omega
             rw[if_neg c,if_neg c];have i:¬({ s with count:=s.count+1 }:St).code≠0:=by have:=h.code;simpa using this
             rw[if_neg i,if_neg (show ¬({ s with count:=s.count+1 }:St).ph=4 by show ¬s.ph=4;omega)];have t:=GX f (l.drop (Ln.of l).size) { s with count:=s.count+1 } (by rw[bU];omega) ⟨h.code,h.ph,h.ln⟩ o;have:=t.shift [] (Ln.of l).size;simpa[shift] using this
           . rw[if_pos b,if_pos b,if_pos (show({ s with code:=(Fd.of (Ln.of l).text).code }:St).code≠0 from b)];exact Same.refl _
     . rw[if_pos (A d),if_pos d];exact Same.refl _
theorem vT:∀(f:Nat) (l:au) (s:St),l.length<f->nL s->s.ph=0->s.count=0->Same (go f l s.total) (run s l)
 | 0,l,s,S,_,_,_=>by omega
 | f + 1, l, s, S, h, T, c => by
   rw[go];by_cases H:(Ln.of l).size=0
   . have:=oW H;rw[if_pos (R this.2)];exact AJ h H
   . have L:0<(Ln.of l).size:=by omega
     have W:=Ln.of_le l;rw[Dl h l L];by_cases o:(Ln.of l).code=0
     . have he:=zy L o;have hn:¬((Ln.of l).code≠0∨(Ln.of l).ended=F):=by rw[he,o];simp
       have t:¬(Ln.of l).code≠0:=by omega
       rw[if_neg hn,if_neg t];have hL:line s (Ln.of l).text=if (size (Ln.of l).text).2=F then { s with code:=7 } else if 4000<s.total+(size (Ln.of l).text).1.toNat then { s with code:=4 } else if (size (Ln.of l).text).1.toNat=0 then { s with ph:=3 } else { s with ph:=1,left:=(size (Ln.of l).text).1.toNat,total:=s.total+(size (Ln.of l).text).1.toNat }:=by
        unfold line;rw[if_pos T]
       rw[hL];by_cases p:(size (Ln.of l).text).2=F
       . rw[if_pos p,if_pos p,if_pos (show({ s with code:=7 }:St).code≠0 by show 7≠0;omega)];exact Same.refl _
       . rw[if_neg p,if_neg p];by_cases q:4000<s.total+(size (Ln.of l).text).1.toNat
         . rw[if_pos q,if_pos q,if_pos (show({ s with code:=4 }:St).code≠0 by show 4≠0;omega)];exact Same.refl _
         . rw[if_neg q,if_neg q];by_cases r:(size (Ln.of l).text).1.toNat=0
           . rw[if_pos r,if_pos r];have u:¬({ s with ph:=3 }:St).code≠0:=by have:=h.code;simpa using this
             rw[if_neg u,if_neg (show ¬({ s with ph:=3 }:St).ph=4 by show ¬3=4;omega)];have v:=GX (f+1) (l.drop (Ln.of l).size) { s with ph:=3 } (by rw[bU];omega) ⟨h.code,R (R rfl),h.ln⟩ rfl;have:=v.shift [] (Ln.of l).size;have w:({ s with ph:=3 }:St).count=0:=c;rw[w] at this;simpa[shift,c] using this
           . rw[if_neg r,if_neg r];have u:¬({ s with ph:=1,left:=(size (Ln.of l).text).1.toNat,total:=s.total+(size (Ln.of l).text).1.toNat }:St).code≠0:=by have:=h.code;simpa using this
             rw[if_neg u,if_neg (show ¬({ s with ph:=1,left:=(size (Ln.of l).text).1.toNat,total:=s.total+(size (Ln.of l).text).1.toNat }:St).ph=4 by show ¬1=4;omega)];generalize (size (Ln.of l).text).1.toNat=k at *;obtain⟨j,rfl⟩:∃j,k=j+1:=⟨k-1,by omega⟩;have hdl:(l.drop (Ln.of l).size).length=l.length-(Ln.of l).size:=bU;generalize hD:l.drop (Ln.of l).size=d at *;generalize (Ln.of l).size=g at *;have N:=GJ { s with total:=s.total+(j+1) } h.code j d;have e2:({ ({ s with total:=s.total+(j+1) }:St) with ph:=1,left:=j+1 }:St)={ s with ph:=1,left:=j+1,total:=s.total+(j+1) }:=rfl;rw[e2] at N;rw[N];simp only[];by_cases a:d.length<j+1
             . rw[if_pos a,if_pos a];exact⟨by simp[shift],rfl,rfl,fun e=>by rcases e with e | e <;> simp at e⟩
             . rw[if_neg a,if_neg a];have O:nL { s with ph:=2,left:=0,total:=s.total+(j+1) }:=⟨h.code,R (A rfl),h.ln⟩;have hel:(d.drop (j+1)).length=d.length-(j+1):=bU;generalize d.drop (j+1)=e at *;rw[nR,dx];show Same _ (shift (d.take (j+1)) (g+(j+1)) (run { s with ph:=2,left:=0,total:=s.total+(j+1) } e));by_cases i:(Ln.of e).size=0
               . have y:=oW i;rw[if_pos (R y.2)];have:=(AJ O i).shift (d.take (j+1)) (g+(j+1));simpa[shift,Nat.add_assoc] using this
               . have m:0<(Ln.of e).size:=by omega
                 have P:=Ln.of_le e;rw[Dl O e m];by_cases b:(Ln.of e).code=0
                 . have z:=zy m b;have B:¬((Ln.of e).code≠0∨(Ln.of e).ended=F):=by rw[z,b];simp
                   have C:¬(Ln.of e).code≠0:=by omega
                   rw[if_neg B,if_neg C];have D:line { s with ph:=2,left:=0,total:=s.total+(j+1) } (Ln.of e).text=if (Ln.of e).text≠[] then { s with ph:=2,left:=0,total:=s.total+(j+1),code:=5 } else { s with ph:=0,left:=0,total:=s.total+(j+1) }:=by
                    unfold line;rw[if_neg (show ¬(2:Nat)=0 by omega),if_pos rfl]
                   rw[D];by_cases G:(Ln.of e).text=[]
                   . have n:¬(Ln.of e).text≠[]:=fun x=>x G;rw[if_neg n,if_neg n];have e3:¬({ s with ph:=0,left:=0,total:=s.total+(j+1) }:St).code≠0:=by have:=h.code;simpa using this
                     rw[if_neg e3,if_neg (show ¬({ s with ph:=0,left:=0,total:=s.total+(j+1) }:St).ph=4 by show ¬0=4;omega)];have v:=vT f (e.drop (Ln.of e).size) { s with ph:=0,left:=0,total:=s.total+(j+1) } (by rw[bU];omega) ⟨h.code,A rfl,h.ln⟩ rfl c;have:=(v.shift [] (Ln.of e).size).shift (d.take (j+1)) (g+(j+1));simpa[shift,Nat.add_assoc] using this
                   . rw[if_pos G,if_pos G,if_pos (show({ s with ph:=2,left:=0,total:=s.total+(j+1),code:=5 }:St).code≠0 by show 5≠0;omega)];simpa[shift,Nat.add_assoc] using Same.refl (⟨d.take (j+1),g+(j+1)+(Ln.of e).size,F,5⟩:Told)
                 . rw[if_pos (A b),if_pos b];simpa[shift,Nat.add_assoc] using Same.refl (⟨d.take (j+1),g+(j+1)+(Ln.of e).size,F,(Ln.of e).code⟩:Told)
     . rw[if_pos (A o),if_pos o];exact Same.refl _
theorem of_run (l:au):Same (of l) (run start l):=vT (l.length+1) l start (by omega) ⟨rfl,A rfl,rfl⟩ rfl rfl
def over (s:St)(c:UInt8):Bool:=decide (s.code=0∧s.ph≠4∧(next s c).code=0∧(next s c).ph=4)
theorem Rk {s:St}(h:s.code≠0)(c:UInt8):next s c=s:=by unfold next;rw[if_pos h]
theorem Kw:∀(l:au) (s:St),((run s l).code≠0∨(run s l).over=true)->1<=(run s l).used∧(run s l).used<=l.length
 | [],s,h=>by rcases h with h | h <;> simp[run] at h
 | c :: t, s, h => by
   rw[run] at h ⊢;split at h
   . rename_i a;rw[if_pos a];exact⟨aL _,by simp⟩
   . rename_i a;rw[if_neg a];split at h
     . rename_i b;rw[if_pos b];exact⟨aL _,by simp⟩
     . rename_i b;rw[if_neg b];have:=Kw t (next s c) h;simp only[aW];omega
def pc (s:St):Nat:=if s.code≠0 then s.code else if s.ph=4 then 18 else 0
def nx (s:St):Nat:=if s.ph=0 then 0 else if s.ph=3 then 2 else 1
def lf (s:St):Nat:=if s.ph=1 then s.left else 0
structure Good (s:St):Prop where
 ph:s.ph<=4
 ln:Ln.Good s.ln
 lc:s.ln.code=0
 left:s.ph=1->0<s.left
 I8:s.left<=4000
 total:s.total<=4000
 count:s.count<=16
theorem Good.start:Good start:=⟨ay _,Ln.Good.start,rfl,fun h=>(by cases h),ay _,ay _,ay _⟩
theorem lW {s:St}:pc s=0<->s.code=0∧s.ph≠4:=by
 unfold pc;by_cases h:s.code=0
 . rw[if_neg (fun e=>e h)];by_cases a:s.ph=4
   . rw[if_pos a];simp[a]
   . rw[if_neg a];simp[h,a]
 . rw[if_pos h];simp[h]
theorem Good.line {s:St}(h:Good s)(t:au):Good (line s t):=by
 obtain⟨j,c,d,k,f,g,i⟩:=h;unfold Ck.line;split
 . split
   . exact⟨j,c,d,k,f,g,i⟩
   . split
     . exact⟨j,c,d,k,f,g,i⟩
     . split
       . exact⟨(by show 3<=4;omega),c,d,fun e=>(by have:(3:Nat)=1:=e;omega),f,g,i⟩
       . rename_i _ a b;exact⟨(by show 1<=4;omega),c,d,fun _=>(by show 0<(size t).1.toNat;omega),(by show(size t).1.toNat<=4000;omega),(by show s.total+(size t).1.toNat<=4000;omega),i⟩
 . split
   . split
     . exact⟨j,c,d,k,f,g,i⟩
     . exact⟨(by show 0<=4;omega),c,d,fun e=>(by have:(0:Nat)=1:=e;omega),f,g,i⟩
   . split
     . exact⟨(by show 4<=4;omega),c,d,fun e=>(by have:(4:Nat)=1:=e;omega),f,g,i⟩
     . split
       . exact⟨j,c,d,k,f,g,i⟩
       . split
         . exact⟨j,c,d,k,f,g,i⟩
         . exact⟨j,c,d,k,f,g,(by show s.count+1<=16;omega)⟩
theorem Good.next {s:St}(h:Good s)(c:UInt8):Good (next s c):=by
 have l:=h;obtain⟨f,g,k,i,j,b,d⟩:=h;unfold Ck.next;split
 . exact l
 . split
   . exact⟨f,g,k,i,j,b,d⟩
   . split
     . refine⟨?_,g,k,fun e=>?_,(by show s.left-1<=4000;omega),b,d⟩
       . show(if s.left<=1 then 2 else 1)<=4;split <;> omega
       . have m:(if s.left<=1 then 2 else 1)=1:=e;show 0<s.left-1;split at m <;> omega
     . split
       . exact⟨f,g,k,i,j,b,d⟩
       . split
         . exact Good.line (s:={ s with ln:=Ln.start }) ⟨f,Ln.Good.start,rfl,i,j,b,d⟩ _
         . exact⟨f,Ln.tQ g,(by rename_i a _;show(Ln.next s.ln c).code=0;omega),i,j,b,d⟩
theorem Rl {t:au}(h:∀b∈t,Ch.ws.contains b=F):Lib.trimS t Ch.ws=t:=by
 have c:∀u:au,(∀b∈u,Ch.ws.contains b=F)->u.dropWhile (Ch.ws.contains ·)=u:=by
  intro u d;cases u with
  | nil=>rfl
  | cons a v=>rw[dV,d a (cB ..)];rfl
 unfold Lib.trimS Lib.trimLeftS Lib.trimRightS;rw[c t.reverse (fun b e=>h b (List.mem_reverse.1 e)),List.reverse_reverse,c t h]
theorem Qd (s:St)(c:UInt8):(out s c).length<=1:=by unfold out;split <;> simp
theorem Vs {s:St}{c:UInt8}(h:(next s c).code≠0):out s c=[]:=by
 unfold out;rw[if_neg];rintro ⟨a,b⟩;apply h;unfold next;rw[if_neg (by omega),if_neg (by omega),if_pos b];exact a
theorem YQ (b:au)(h:(of b).code≠0∨(of b).over=true):1<=(of b).used∧(of b).used<=b.length:=by
 have a:=of_run b;rw[a.used h];refine Kw b start ?_;rw[<-a.code,<-a.over];exact h
end Go.Proofs.YtjmndjmhjleabaaGreatDoor.Ck
namespace Go.Proofs.YtjmndjmhjleabaaGreatDoor
open Go.RowKit
theorem vW (l:au):(Lib.trimS l Ch.ws).length<=l.length:=by
 unfold Lib.trimS Lib.trimLeftS Lib.trimRightS;have a:=(bS (l:=(l.reverse.dropWhile (Ch.ws.contains ·)).reverse) (Ch.ws.contains ·)).length_le;have b:=(bS (l:=l.reverse) (Ch.ws.contains ·)).length_le;simp only[List.length_reverse] at a b;omega
end Go.Proofs.YtjmndjmhjleabaaGreatDoor
namespace Go.Proofs.YtjmndjmhjleabaaGreatDoor.Fd
theorem VB (l:au)(c:UInt8):(Lib.indexByte l c=-1∧at_ c l=l.length)∨(Lib.indexByte l c=(at_ c l:Int)∧at_ c l<l.length):=by
 by_cases h:Lib.indexByte l c=-1
 . refine A ⟨h,Qa fun j a e=>?_⟩;exact Lib.indexByte_none h j (by rw[dB a,e])
 . have f:=Lib.indexByte_ge l c;obtain⟨o,d⟩:∃o:Nat,Lib.indexByte l c=o:=⟨(Lib.indexByte l c).toNat,by omega⟩;obtain⟨g,i⟩:=Lib.indexByte_some d;obtain⟨b,k⟩:=aP.1 g;have:at_ c l=o:=aaC b k fun j a e=>i j a (by rw[dB (by omega),e]);refine R ⟨by rw[d,this],by omega⟩
theorem sZ (p q:UInt8->Bool)(h:∀b,q b=true->p b=true):∀l:au,(l.dropWhile q).all p=l.all p
 | []=>rfl
 | a :: t => by
   rw[dV];cases c:q a
   . rfl
   . rw[if_pos rfl,sZ p q h t,dO,h a c];rfl
theorem Qh (b:UInt8)(h:Ch.ws.contains b=true):Ch.visible b.toNat=true:=by
 have a:=b.toNat_lt;have:=(show ∀n:Fin 256,Ch.ws.contains n.val.toUInt8=true->Ch.visible ((n.val.toUInt8).toNat:Int)=true by decide +kernel) ⟨b.toNat,a⟩;have e:b.toNat.toUInt8=b:=by simp
 simp only[e] at this;exact this h
theorem Rv (l:au):Ch.iw (Lib.trimS l Ch.ws)=Ch.iw l:=by
 unfold Ch.iw Lib.trimS Lib.trimLeftS Lib.trimRightS;rw[sZ _ _ Qh,List.all_reverse,sZ _ _ Qh,List.all_reverse]
theorem YU (l:au):of l=if at_ 58 l=l.length then bad 5
 else if Ch.isToken (l.take (at_ 58 l))=F then bad 6
 else if 40<at_ 58 l then bad 4
 else if Ch.iw (Lib.trimS (l.drop (at_ 58 l+1)) Ch.ws)=F then bad 3
 else ⟨l.take (at_ 58 l),Lib.trimS (l.drop (at_ 58 l+1)) Ch.ws,0⟩:=by
 unfold of;rw[Rv]
theorem AO (l:au):(of l).name.length<=l.length∧(of l).value.length<=l.length:=by
 unfold of;split
 . simp[bad]
 . split
   . simp[bad]
   . split
     . simp[bad]
     . split
       . simp[bad]
       . refine⟨List.length_take_le' ..,?_⟩;have:=vW (l.drop (at_ 58 l+1));rw[bU] at this;show(Lib.trimS (l.drop (at_ 58 l+1)) Ch.ws).length<=l.length;omega
end Go.Proofs.YtjmndjmhjleabaaGreatDoor.Fd
namespace Go.Proofs.YtjmndjmhjleabaaGreatDoor.Pm
theorem KO (p:UInt8->Bool)(l:au):(l.takeWhile p).length<=l.length:=(List.takeWhile_prefix (l:=l) p).length_le
theorem vX (p:UInt8->Bool)(l:au):(l.dropWhile p).length<=l.length:=(bS (l:=l) p).length_le
theorem Ql (p:UInt8->Bool)(l:au):(l.takeWhile p).length+(l.dropWhile p).length=l.length:=by
 rw[<-aV,List.takeWhile_append_dropWhile]
theorem YX {r v r':au}(h:val r=.inr (v,r')):v.length<=r.length∧r'.length<=r.length:=by
 unfold val at h;split at h
 . split at h
   . cases h
   . rename_i x a;injection h with h;subst h;have:=GQ _ _ _ _ _ (aL _) a;rw[bR] at this;simp only[bZ] at this;omega
 . split at h
   . cases h
   . injection h with h;injection h with b c;subst b;subst c;exact⟨KO _ _,vX _ _⟩
theorem YZ {r r':au}{p:tK}(h:par r=.inr (p,r')):p.1.length<=r.length∧p.2.length<=r.length∧r'.length<=r.length:=by
 unfold par at h;split at h
 . simp only[] at h;split at h
   . cases h
   . split at h
     . split at h
       . cases h
       . rename_i x a;injection h with h;injection h with b c;subst b;subst c;have d:=YX (v:=x.1) (r':=x.2) a;rw[bR] at d;have f:=vX tok (r.tail.dropWhile blank);have e:=vX blank r.tail;have g:=KO tok (r.tail.dropWhile blank);rw[bR] at e;dsimp only;rw[Ch.mY];omega
     . cases h
 . cases h
theorem KP (N:Nat):∀(n:Nat) (r:au) (a b:List tK),r.length<=N->(∀p∈a,p.1.length<=N∧p.2.length<=N)->uF n r a=.inr b->∀p∈b,p.1.length<=N∧p.2.length<=N
 | 0, r, a, b, _, ha, h => by
   rw[uF] at h;injection h with h;subst h;exact ha
 | n + 1, r, a, b, e, ha, h => by
   rw[uF] at h;split at h
   . injection h with h;subst h;exact ha
   . split at h
     . cases h
     . rename_i x d;split at h
       . cases h
       . split at h
         . cases h
         . have f:=YZ (p:=x.1) (r':=x.2) d;have g:=vX blank r;refine KP N n x.2 _ b (by omega) (fun p c=>?_) h;rw[bA,bB] at c;rcases c with c | rfl
           . exact ha p c
           . omega
theorem Y0 {l wd r:au}(h:wrd l=.inr (wd,r)):wd.length<=l.length∧r.length<=l.length:=by
 unfold wrd at h;simp only[] at h;have f:=vX blank l;have g:=Ql tok (l.dropWhile blank);split at h
 . cases h
 . split at h
   . rename_i a;split at h
     . cases h
     . injection h with h;injection h with b c;subst b;subst c;have d:=Ql tok ((l.dropWhile blank).dropWhile tok).tail;rw[bR] at d;have i:0<((l.dropWhile blank).dropWhile tok).length:=by
        cases e:(l.dropWhile blank).dropWhile tok with
        | nil=>rw[e] at a;cases a
        | cons _ _=>simp
       simp only[aV,Ch.mY,List.length_singleton];omega
   . injection h with h;injection h with b c;subst b;subst c;rw[Ch.mY];omega
theorem AP {l wd:au}{b:List tK}(h:kr l=.inr (wd,b)):wd.length<=l.length∧∀p∈b,p.1.length<=l.length∧p.2.length<=l.length:=by
 unfold kr at h;split at h
 . cases h
 . split at h
   . cases h
   . rename_i x c;unfold fin at h;split at h
     . cases h
     . rename_i d a;injection h with h;injection h with e f;subst e;subst f;obtain⟨g,i⟩:=Y0 (wd:=x.1) (r:=x.2) c;exact⟨g,KP l.length _ _ _ _ i (fun p a=>by cases a) a⟩
end Go.Proofs.YtjmndjmhjleabaaGreatDoor.Pm
namespace Go.Proofs.YtjmndjmhjleabaaGreatDoor
theorem Ln.D5 (l:au):∀(t:au) (i:Nat),(Ln.go l i t).text.length<=l.length
 | [],i=>ay _
 | c :: t, i => by
   unfold Ln.go;split
   . split
     . exact ay _
     . split
       . show(l.take i).length<=l.length;rw[bX];omega
       . exact ay _
   . split
     . exact ay _
     . split
       . exact ay _
       . split
         . exact ay _
         . exact Ln.D5 l t (i+1)
theorem Ln.uO (l:au):(Ln.of l).text.length<=l.length:=Ln.D5 l l 0
namespace Ck
section
variable {f:Nat} {l:au} {n:Nat}
theorem NH (h:(Ln.of l).code≠0∨(Ln.of l).ended=F):go (f+1) l n=⟨[],(Ln.of l).size,F,(Ln.of l).code⟩:=by rw[go,if_pos h]
section
variable (h:¬((Ln.of l).code≠0∨(Ln.of l).ended=F))
include h
theorem Y5 (a:(size (Ln.of l).text).2=F):go (f+1) l n=⟨[],(Ln.of l).size,F,7⟩:=by rw[go,if_neg h,if_pos a]
section
variable (h1:(size (Ln.of l).text).2=true)
include h1
theorem Y6 (a:4000<n+(size (Ln.of l).text).1.toNat):go (f+1) l n=⟨[],(Ln.of l).size,F,4⟩:=by rw[go,if_neg h,if_neg (by rw[h1];simp),if_pos a]
section
variable (h2:¬4000<n+(size (Ln.of l).text).1.toNat)
include h2
theorem Y7 (a:(size (Ln.of l).text).1.toNat=0):go (f+1) l n=shift [] (Ln.of l).size (trail (f+1) (l.drop (Ln.of l).size) 0):=by
 rw[go,if_neg h,if_neg (by rw[h1];simp),if_neg h2,if_pos a];rfl
section
variable (h3:¬(size (Ln.of l).text).1.toNat=0)
include h3
theorem VY (a:(l.drop (Ln.of l).size).length<(size (Ln.of l).text).1.toNat):go (f+1) l n=⟨l.drop (Ln.of l).size,(Ln.of l).size+(l.drop (Ln.of l).size).length,F,0⟩:=by
 rw[go,if_neg h,if_neg (by rw[h1];simp),if_neg h2,if_neg h3];simp only[];rw[if_pos a]
section
variable (h4:¬(l.drop (Ln.of l).size).length<(size (Ln.of l).text).1.toNat)
include h4
theorem Y8 (a:(Ln.of ((l.drop (Ln.of l).size).drop (size (Ln.of l).text).1.toNat)).code≠0∨(Ln.of ((l.drop (Ln.of l).size).drop (size (Ln.of l).text).1.toNat)).ended=F):
 go (f+1) l n=⟨(l.drop (Ln.of l).size).take (size (Ln.of l).text).1.toNat,(Ln.of l).size+(size (Ln.of l).text).1.toNat+(Ln.of ((l.drop (Ln.of l).size).drop (size (Ln.of l).text).1.toNat)).size,F,(Ln.of ((l.drop (Ln.of l).size).drop (size (Ln.of l).text).1.toNat)).code⟩:=by
 rw[go,if_neg h,if_neg (by rw[h1];simp),if_neg h2,if_neg h3];simp only[];rw[if_neg h4,if_pos a]
section
variable (h5:¬((Ln.of ((l.drop (Ln.of l).size).drop (size (Ln.of l).text).1.toNat)).code≠0∨(Ln.of ((l.drop (Ln.of l).size).drop (size (Ln.of l).text).1.toNat)).ended=F))
include h5
theorem Y9 (a:(Ln.of ((l.drop (Ln.of l).size).drop (size (Ln.of l).text).1.toNat)).text≠[]):
 go (f+1) l n=⟨(l.drop (Ln.of l).size).take (size (Ln.of l).text).1.toNat,(Ln.of l).size+(size (Ln.of l).text).1.toNat+(Ln.of ((l.drop (Ln.of l).size).drop (size (Ln.of l).text).1.toNat)).size,F,5⟩:=by
 rw[go,if_neg h,if_neg (by rw[h1];simp),if_neg h2,if_neg h3];simp only[];rw[if_neg h4,if_neg h5,if_pos a]
theorem Za (a:(Ln.of ((l.drop (Ln.of l).size).drop (size (Ln.of l).text).1.toNat)).text=[]):
 go (f+1) l n=shift ((l.drop (Ln.of l).size).take (size (Ln.of l).text).1.toNat) ((Ln.of l).size+(size (Ln.of l).text).1.toNat+(Ln.of ((l.drop (Ln.of l).size).drop (size (Ln.of l).text).1.toNat)).size) (go f (((l.drop (Ln.of l).size).drop (size (Ln.of l).text).1.toNat).drop (Ln.of ((l.drop (Ln.of l).size).drop (size (Ln.of l).text).1.toNat)).size) (n+(size (Ln.of l).text).1.toNat)):=by
 rw[go,if_neg h,if_neg (by rw[h1];simp),if_neg h2,if_neg h3];simp only[];rw[if_neg h4,if_neg h5,if_neg (fun e=>e a)];rfl
end
end
end
end
end
end
theorem RP (h:(Ln.of l).code≠0∨(Ln.of l).ended=F):trail (f+1) l n=⟨[],(Ln.of l).size,F,(Ln.of l).code⟩:=by rw[trail,if_pos h]
section
variable (h:¬((Ln.of l).code≠0∨(Ln.of l).ended=F))
include h
theorem RQ (a:(Ln.of l).text=[]):trail (f+1) l n=⟨[],(Ln.of l).size,true,0⟩:=by rw[trail,if_neg h,if_pos a]
section
variable (h1:¬(Ln.of l).text=[])
include h1
theorem NI (a:n=16):trail (f+1) l n=⟨[],(Ln.of l).size,F,8⟩:=by rw[trail,if_neg h,if_neg h1,if_pos a]
section
variable (h2:¬n=16)
include h2
theorem NJ (a:(Fd.of (Ln.of l).text).code≠0):trail (f+1) l n=⟨[],(Ln.of l).size,F,(Fd.of (Ln.of l).text).code⟩:=by rw[trail,if_neg h,if_neg h1,if_neg h2,if_pos a]
theorem NK (a:(Fd.of (Ln.of l).text).code=0):trail (f+1) l n=shift [] (Ln.of l).size (trail f (l.drop (Ln.of l).size) (n+1)):=by
 rw[trail,if_neg h,if_neg h1,if_neg h2,if_neg (fun e=>e a)];rfl
end
end
end
end
end Ck
theorem D6 (t:au):0<=(Ck.size t).1∧(Ck.size t).1<68719476736:=by
 unfold Ck.size;generalize Lib.trimS (t.take (Fd.at_ 59 t)) Ch.ws=l;unfold Ch.number;split
 . exact⟨aA _,by decide⟩
 . split
   . rename_i a b;have c:¬(6:Int)<l.length:=fun e=>a (R e);exact Ch.mG 16 (by omega) (by omega) l b (by omega)
   . exact⟨aA _,by decide⟩
end Go.Proofs.YtjmndjmhjleabaaGreatDoor