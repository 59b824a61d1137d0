/- Small texts, one behind the other: PlainA, PlainL, PlainN, PlainLT, PlainB, PlainF, PlainCK, PlainUA, PlainUB, PlainP, PlainM, PlainRp, PlainCL, PlainCG, PlainCB, PlainCW, PlainT, PlainG, PlainMT, PlainMB, PlainMD, PlainCO. -/
import Derived.Test.YtjmndjmhjleabaaGreatDoorAl
import Derived.Lib.SlTrimSet
import Derived.Lib.IndexLaws
import Derived.Lib.Strings
import Derived.Below
namespace Go.Proofs.YtjmndjmhjleabaaGreatDoor.Ch
def digit (c:Int):Bool:=decide (48<=c)&&decide (c<=57)
def capital (c:Int):Bool:=decide (65<=c)&&decide (c<=90)
def letter (c:Int):Bool:=(decide (97<=c)&&decide (c<=122))||capital c
def visible (c:Int):Bool:=c==9||(decide (32<=c)&&c != 127)
def marks:av:=[33,35,36,37,38,39,42,43,45,46,94,95,96,124,126]
def token (c:Int):Bool:=digit c||letter c||decide (0<=Lib.indexByte marks c.toNat.toUInt8)
def oneOf (c:Int)(l:av):Bool:=l.any fun b=>(b.toNat:Int)==c
def hex (c:Int):Int:=if digit c then c-48 else if decide (97<=c)&&decide (c<=102) then c-87 else if decide (65<=c)&&decide (c<=70) then c-55 else -1
theorem IY {p:Int->Bool}(h:(List.range 256).all (fun n=>p (n:Int))=true)(c:Int)(h0:0<=c)(h1:c<=255):p c=true:=by
 obtain⟨n,rfl⟩:=Int.eq_ofNat_of_zero_le h0;exact dN.1 h n (List.mem_range.2 (by omega))
def tokens:av:=[48,49,50,51,52,53,54,55,56,57,65,66,67,68,69,70,71,72,73,74,75,76,77,78,79,80,81,82,83,84,85,86,87,88,89,90,97,98,99,100,101,102,103,104,105,106,107,108,109,110,111,112,113,114,115,116,117,118,119,120,121,122,33,35,36,37,38,39,42,43,45,46,94,95,96,124,126]
theorem IZ (c:Int)(h0:0<=c)(h1:c<=255):oneOf c tokens=token c:=by
 have:=IY (p:=fun c=>oneOf c tokens==token c) (by decide +kernel) c h0 h1;simpa using this
def isToken (l:av):Bool:=!l.isEmpty&&l.all fun b=>token b.toNat
def Dg (l:av):Bool:=l.all fun b=>token b.toNat
def iy (l:av):Bool:=l.all fun b=>visible b.toNat
theorem Rb (c:Int)(h0:0<=c)(h1:c<=255):-1<=hex c∧hex c<=15:=by
 have:=IY (p:=fun c=>decide (-1<=hex c∧hex c<=15)) (by decide +kernel) c h0 h1;simpa using this
theorem Nb (c:Int)(l:av)(b:UInt8):oneOf c (l++[b])=(oneOf c l||((b.toNat:Int)==c)):=by
 simp[oneOf]
theorem jr (s:ay)(k:Nat)(h:k<s.size):s.data.toList.take (k+1)=s.data.toList.take k++[s[k]]:=by
 rw[bO (by simpa using h)];rfl
theorem kY (s:ay)(k:Nat)(h:s.size<=k):s.data.toList.take k=s.data.toList :=
 dO (by simpa using h)
theorem Kc (p:UInt8->Bool)(s:ay)(k:Nat)(h:k<s.size)(hp:p s[k]=true):s.data.toList.any p=true:=by
 rw[List.any_eq_true];exact⟨s[k],by
  have:s[k]=s.data.toList[k]'(by simpa using h):=rfl;rw[this];exact aC _,hp⟩
theorem mG (p:UInt8->Bool)(s:ay)(k:Nat)(h:k<s.size)(hp:p s[k]=false):s.data.toList.all p=false:=by
 rw[Bool.eq_false_iff,Ne,dN];intro hall;have:=hall s[k] (by
  have:s[k]=s.data.toList[k]'(by simpa using h):=rfl;rw[this];exact aC _)
 rw[this] at hp;cases hp
def yc (base:Int)(b:UInt8):Bool:=decide (0<=hex b.toNat)&&decide (hex b.toNat<base)
def numOf (base:Int)(l:av):Int:=l.foldl (fun n b=>n*base+hex b.toNat) 0
def number (base most:Int)(l:av):Int×Bool :=
 if l=[]∨most<l.length then (0,false) else if l.all (yc base) then (numOf base l,true) else (0,false)
theorem yK (base:Int)(l:av)(b:UInt8):numOf base (l++[b])=numOf base l*base+hex b.toNat:=by
 simp[numOf]
theorem rE (b:UInt8):-1<=hex b.toNat∧hex b.toNat<=15:=Rb _ (by omega) (by have:=b.toNat_lt;omega)
theorem Gx (base:Int)(hb0:0<=base)(hb1:base<=16):∀(l:av) (n:Int) (B:Nat),0<=n->n<16 ^ B->l.all (yc base)=true ->
 0<=l.foldl (fun n b=>n*base+hex b.toNat) n∧l.foldl (fun n b=>n*base+hex b.toNat) n<16 ^ (B+l.length)
 | [],n,B,h0,h1,_=>⟨h0,h1⟩
 | b :: l, n, B, h0, h1, hl => by
   rw[dP,dh] at hl;have hx:=rE b;have hd:0<=hex b.toNat:=by
    have:=hl.1;unfold yc at this;rw[dh] at this;exact dn this.1
   have p0:0<=n*base:=Int.mul_nonneg h0 hb0;have p1:n*base<=n*16:=Int.mul_le_mul_of_nonneg_left hb1 h0;have e:(16:Int) ^ (B+1)=16 ^ B*16:=Int.pow_succ ..;have:=Gx base hb0 hb1 l (n*base+hex b.toNat) (B+1) (by omega) (by omega) hl.2;rw[dQ,aX,show B+(l.length+1)=B+1+l.length by omega];exact this
theorem mH (base:Int)(hb0:0<=base)(hb1:base<=16)(l:av)(hl:l.all (yc base)=true)(h9:l.length<=9):0<=numOf base l∧numOf base l<68719476736:=by
 have h:=Gx base hb0 hb1 l 0 0 (aB _) (by decide) hl;have:(16:Int) ^ (0+l.length)<=16 ^ 9:=by
  have:(16:Nat) ^ (0+l.length)<=16 ^ 9:=Nat.pow_le_pow_right (by decide) (by omega);exact_mod_cast this
 have e:(16:Int) ^ 9=68719476736:=by decide
 exact⟨h.1,by have:=h.2;unfold numOf;omega⟩
theorem rF (p:UInt8->Bool)(l:av)(b:UInt8):(l++[b]).all p=(l.all p&&p b):=by simp
theorem lH (base most:Int)(l:av)(h:l=[]∨most<l.length):number base most l=(0,false):=by unfold number;rw[if_pos h]
theorem tQ (base most:Int)(l:av)(h:l.all (yc base)=false):number base most l=(0,false):=by
 unfold number;split
 . rfl
 . rw[h];rfl
theorem rG (base most:Int)(l:av)(h1:l≠[])(h2:¬most<l.length)(h:l.all (yc base)=true):number base most l=(numOf base l,true):=by
 unfold number;rw[if_neg (by simp[h1,h2]),h];rfl
theorem iD (s:ay):s.data.toList.length=s.size:=by simp
theorem ne_nil (s:ay)(h:0<s.size):s.data.toList≠[]:=by
 intro e;have:=iD s;rw[e] at this;simp at this;omega
theorem empty_eq (s:ay)(h:s.size=0):s=⟨#[]⟩:=by
 apply ByteArray.ext;exact Array.eq_empty_of_size_eq_zero h
theorem lV (s:ay)(h:0<s.size):s.toList.isEmpty=false:=by
 rw[Lib.toList_data];cases h':s.data.toList with
 | nil=>exact absurd h' (ne_nil s h)
 | cons _ _=>rfl
def vD (b:UInt8)(j:Nat):UInt8:=if 65<=b.toNat∧b.toNat<65+j then b+32 else b
def qC (b:UInt8):UInt8:=vD b 26
def lower (l:av):av:=l.map qC
theorem P8 (j:Nat)(h:j<26):((⟨#[65,66,67,68,69,70,71,72,73,74,75,76,77,78,79,80,81,82,83,84,85,86,87,88,89,90]⟩:ay)[j]'h).toNat=65+j :=
 (show ∀j:Fin 26,((⟨#[65,66,67,68,69,70,71,72,73,74,75,76,77,78,79,80,81,82,83,84,85,86,87,88,89,90]⟩:ay)[j.val]'j.isLt).toNat=65+j.val by decide +kernel) ⟨j,h⟩
theorem YE (j:Nat)(h:j<26):((⟨#[97,98,99,100,101,102,103,104,105,106,107,108,109,110,111,112,113,114,115,116,117,118,119,120,121,122]⟩:ay).extract j (j+1)).data.toList=[((97+j).toUInt8)] :=
 (show ∀j:Fin 26,((⟨#[97,98,99,100,101,102,103,104,105,106,107,108,109,110,111,112,113,114,115,116,117,118,119,120,121,122]⟩:ay).extract j.val (j.val+1)).data.toList=[((97+j.val).toUInt8)] by decide +kernel) ⟨j,h⟩
theorem Rc (b:UInt8)(j:Nat)(h:j<26)(he:(((((⟨#[65,66,67,68,69,70,71,72,73,74,75,76,77,78,79,80,81,82,83,84,85,86,87,88,89,90]⟩:ay)[j]'h).toNat:Nat):Int)==(b.toNat:Int))=true):
 ((⟨#[97,98,99,100,101,102,103,104,105,106,107,108,109,110,111,112,113,114,115,116,117,118,119,120,121,122]⟩:ay).extract j (j+1)).data.toList=[vD b (j+1)]:=by
 rw[P8 j h] at he;have hb:b.toNat=65+j:=by have:=aT.1 he;omega
 rw[YE j h];unfold vD;rw[if_pos (by omega)];have:(97+j).toUInt8=b+32:=by
  apply dR.1;rw[UInt8.toNat_add,hb];simp;omega
 rw[this]
theorem Nc (b:UInt8)(j:Nat)(h:j<26)(he:(((((⟨#[65,66,67,68,69,70,71,72,73,74,75,76,77,78,79,80,81,82,83,84,85,86,87,88,89,90]⟩:ay)[j]'h).toNat:Nat):Int)==(b.toNat:Int))=false):
 vD b (j+1)=vD b j:=by
 rw[P8 j h] at he;have hb:¬b.toNat=65+j:=by have:=aS.1 he;omega
 unfold vD;by_cases hc:65<=b.toNat∧b.toNat<65+j
 . rw[if_pos hc,if_pos (by omega)]
 . rw[if_neg hc,if_neg (by omega)]
theorem Nf (b:UInt8):vD b 0=b:=by unfold vD;rw[if_neg (by omega)]
theorem vR (s:ay)(k:Nat)(h:k<s.size):(s.extract k (k+1)).data.toList=[s[k]]:=by
 rw[Lib.extract_data,show k+1-k=1 by omega,aD (by simpa using h)];rfl
theorem Ng (l:av)(b:UInt8):lower (l++[b])=lower l++[qC b]:=by simp[lower]
theorem mZ (l:av):(lower l).length=l.length:=by simp[lower]
theorem data_append (a b:ay):(a++b).data.toList=a.data.toList++b.data.toList:=by simp
theorem str_eq {x:ay}{l:av}(h:x.data.toList=l):x=⟨l.toArray⟩:=by
 obtain⟨⟨m⟩⟩:=x;simp only at h;rw[h]
theorem size_of_list {x:ay}{l:av}(h:x.data.toList=l):x.size=l.length:=by rw[<-h,iD]
def Cy:av:=[48,49,50,51,52,53,54,55,56,57,97,98,99,100,101,102]
theorem YF (j:Nat)(h:j<16):((⟨#[48,49,50,51,52,53,54,55,56,57,97,98,99,100,101,102]⟩:ay).extract j (j+1)).data.toList=[Cy.getD j 0] :=
 (show ∀j:Fin 16,((⟨#[48,49,50,51,52,53,54,55,56,57,97,98,99,100,101,102]⟩:ay).extract j.val (j.val+1)).data.toList=[Cy.getD j.val 0] by decide +kernel) ⟨j,h⟩
theorem U3 (b:UInt8)(j:Nat)(h:j<16)(he:qC b=Cy.getD j 0):hex b.toNat=j:=by
 have hb:=b.toNat_lt;have:=(show ∀(n:Fin 256) (j:Fin 16),qC n.val.toUInt8=Cy.getD j.val 0->hex ((n.val.toUInt8).toNat:Int)=(j.val:Int) by decide +kernel) ⟨b.toNat,hb⟩ ⟨j,h⟩;have e:b.toNat.toUInt8=b:=by simp
 simp only[e] at this;exact this he
theorem Rf (b:UInt8)(he:∀j,j<16->qC b≠Cy.getD j 0):hex b.toNat=-1:=by
 have hb:=b.toNat_lt;have:=(show ∀(n:Fin 256),(∀j:Fin 16,qC n.val.toUInt8≠Cy.getD j.val 0)->hex ((n.val.toUInt8).toNat:Int)=-1 by decide +kernel) ⟨b.toNat,hb⟩;have e:b.toNat.toUInt8=b:=by simp
 simp only[e] at this;exact this fun j=>he j.val j.isLt
theorem U4 (b:UInt8)(j:Nat)(h:j<16):([qC b]==((⟨#[48,49,50,51,52,53,54,55,56,57,97,98,99,100,101,102]⟩:ay).extract j (j+1)).toList)=decide (qC b=Cy.getD j 0):=by
 rw[Lib.toList_data,YF j h];by_cases e:qC b=Cy.getD j 0
 . rw[e];simp
 . rw[aJ e];exact aS.2 (fun h=>e (by simpa using h))
theorem Nh (c:Int):oneOf c [48,49,50,51,52,53,54,55,56,57]=digit c:=by
 unfold oneOf digit;simp only[List.any_cons,List.any_nil,Bool.or_false];by_cases h:48<=c∧c<=57
 . rw[aI h.1,aI h.2];have:c=48∨c=49∨c=50∨c=51∨c=52∨c=53∨c=54∨c=55∨c=56∨c=57:=by omega
   rcases this with rfl | rfl | rfl | rfl | rfl | rfl | rfl | rfl | rfl | rfl <;> decide
 . have e:(decide (48<=c)&&decide (c<=57))=false:=by
    by_cases h1:48<=c
    . rw[aJ (show ¬c<=57 from fun h2=>h ⟨h1,h2⟩)];simp
    . rw[aJ h1];rfl
   rw[e];have hn:∀n:Nat,48<=n->n<=57->((n:Int)==c)=false:=fun n a b=>aS.2 (by omega);simp only[aR];refine⟨?_,?_,?_,?_,?_,?_,?_,?_,?_,?_⟩ <;> exact hn _ (by decide) (by decide)
theorem adY (b:UInt8):yc 10 b=digit b.toNat:=by
 have hb:=b.toNat_lt;have:=IY (p:=fun c=>(decide (0<=hex c)&&decide (hex c<10))==digit c) (by decide +kernel) b.toNat (by omega) (by omega);exact aT.1 this
theorem Gy (b:UInt8):yc 16 b=decide (0<=hex b.toNat):=by
 have:=rE b;unfold yc;rw[aI (show hex b.toNat<16 by omega)];simp
end Go.Proofs.YtjmndjmhjleabaaGreatDoor.Ch
namespace Go.Proofs.YtjmndjmhjleabaaGreatDoor.Ln
structure Told where
 text:av
 size:Nat
 ended:Bool
 code:Nat
def open_:Told:=⟨[],0,false,0⟩
def fails (i c:Nat):Told:=⟨[],i,false,c⟩
def go (l:av):Nat->av->Told
 | _,[]=>open_
 | i, c :: t =>
   if c=13 then
    match t with
    | []=>open_
    | d::_=>if d=10 then ⟨l.take i,i+2,true,0⟩ else fails (i+2) 2
   else if c=10 then fails (i+1) 2
   else if Ch.visible c.toNat=false then fails (i+1) 3
   else if i=200 then fails (i+1) 4
   else go l (i+1) t
def of (l:av):Told:=go l 0 l
theorem Dh (l:av)(i:Nat)(h:l.length<=i):go l i (l.drop i)=open_:=by
 rw[aK h];rfl
theorem Ke (l:av)(i:Nat)(h:i<l.length):go l i (l.drop i) =
 if l[i]=13 then
  (if h2:i+1<l.length then (if l[i+1]=10 then ⟨l.take i,i+2,true,0⟩ else fails (i+2) 2) else open_)
 else if l[i]=10 then fails (i+1) 2
 else if Ch.visible l[i].toNat=false then fails (i+1) 3
 else if i=200 then fails (i+1) 4
 else go l (i+1) (l.drop (i+1)):=by
 rw[aD h];show(if l[i]=13 then _ else _)=_;by_cases mE:l[i]=13
 . rw[if_pos mE,if_pos mE];by_cases h2:i+1<l.length
   . rw[dif_pos h2,aD h2]
   . rw[dif_neg h2,aK (by omega)]
 . rw[if_neg mE,if_neg mE]
structure St where
 line:av
 ending:Bool
 code:Nat
def start:St:=⟨[],false,0⟩
def fault (s:St)(c:UInt8):Nat :=
 if s.ending=(c==10) then (if c=13∨c=10 then 0 else if Ch.visible c.toNat=false then 3 else if 200<=s.line.length then 4 else 0) else 2
def next (s:St)(c:UInt8):St :=
 if s.code≠0 then s
 else if fault s c≠0 then { s with code:=fault s c }
 else if c=10 then ⟨[],false,0⟩
 else if c=13 then { s with ending:=true }
 else { s with line:=s.line++[c] }
def text (s:St)(c:UInt8):av:=if s.code=0∧fault s c=0∧c=10 then s.line else []
def ends (s:St)(c:UInt8):Bool:=decide (s.code=0∧fault s c=0∧c=10)
def begun (s:St):Bool:=s.ending||decide (0<s.line.length)
def came (s:St):av:=s.line++(if s.ending then [13] else [])
structure Good (s:St):Prop where
 seen:∀b∈s.line,Ch.visible b.toNat=true
 short:s.line.length<=200
theorem Good.start:Good start:=⟨fun b h=>by simp[Ln.start] at h,by simp[Ln.start]⟩
theorem aaC:Ch.visible (13:UInt8).toNat=false:=by decide
theorem adZ:Ch.visible (10:UInt8).toNat=false:=by decide
theorem tT {s:St}{c:UInt8}(h:Good s):Good (next s c):=by
 unfold next;split
 . exact h
 . split
   . exact⟨h.seen,h.short⟩
   . split
     . exact Good.start
     . split
       . exact⟨h.seen,h.short⟩
       . rename_i _ hf h10 mE;have hf:fault s c=0:=by omega
         unfold fault at hf;split at hf
         . split at hf
           . rename_i hc;rcases hc with e | e <;> contradiction
           . split at hf
             . omega
             . split at hf
               . omega
               . rename_i _ _ hv hl;refine⟨fun b hb=>?_,by simp;omega⟩;simp at hb;rcases hb with hb | rfl
                 . exact h.seen b hb
                 . cases hh:Ch.visible (b.toNat:Int)
                   . exact absurd hh hv
                   . rfl
         . omega
theorem go_skip (l:av)(n:Nat)(hn:n<=l.length)(h2:n<=200)(hv:∀b∈l.take n,Ch.visible b.toNat=true):of l=go l n (l.drop n):=by
 induction n with
 | zero=>rfl
 | succ n ih =>
   have hlt:n<l.length:=by omega
   have hm:l[n]∈l.take (n+1):=by
    rw[bO hlt];exact dS _ (bC.2 rfl)
   have hx:=hv _ hm;rw[ih (by omega) (by omega) (fun b hb=>hv b (by
    rw[bO hlt];exact bJ _ hb)),Ke l n hlt]
   rw[if_neg (fun e=>by rw[e,aaC] at hx;cases hx),if_neg (fun e=>by rw[e,adZ] at hx;cases hx),if_neg (by rw[hx];simp),if_neg (by omega)]
theorem I4 {s:St}(h:Good s)(hc:s.code=0)(c:UInt8):
 (of (came s++[c])).text=text s c∧(of (came s++[c])).ended=ends s c∧(of (came s++[c])).code=(next s c).code∧(ends s c=true->(of (came s++[c])).size=(came s).length+1):=by
 have amI:=aaC;have e:of (came s++[c])=go (came s++[c]) s.line.length ((came s++[c]).drop s.line.length):=by
  refine go_skip _ _ (by unfold came;simp) h.short (fun b hb=>?_);unfold came at hb;rw[dU,List.take_left] at hb;exact h.seen b hb
 rw[e];cases he:s.ending
 . have e2:came s++[c]=s.line++[c]:=by unfold came;rw[he];simp
   rw[e2,List.drop_left];have e3:came s=s.line:=by unfold came;rw[he];simp
   rw[e3];show _∧_∧_∧_;unfold go;by_cases mE:c=13
   . subst mE;have hf:fault s 13=0:=by unfold fault;rw[he];rfl
     simp[text,ends,next,hf,hc,open_]
   . rw[if_neg mE];by_cases h10:c=10
     . subst h10;have hf:fault s 10=2:=by unfold fault;rw[he];rfl
       simp[text,ends,next,hf,hc,fails]
     . rw[if_neg h10];have hq:s.ending=(c==10):=by rw[he];exact(aS.2 h10).symm
       have hno:¬(c=13∨c=10):=by rintro (e | e) <;> contradiction
       by_cases hv:Ch.visible c.toNat=false
       . have hf:fault s c=3:=by unfold fault;rw[if_pos hq,if_neg hno,if_pos hv]
         rw[if_pos hv];simp[text,ends,next,hf,hc,fails]
       . rw[if_neg hv];by_cases h2:s.line.length=200
         . have hf:fault s c=4:=by unfold fault;rw[if_pos hq,if_neg hno,if_neg hv,if_pos (by omega)]
           rw[if_pos h2];simp[text,ends,next,hf,hc,fails]
         . have hs:=h.short;have hf:fault s c=0:=by unfold fault;rw[if_pos hq,if_neg hno,if_neg hv,if_neg (by omega)]
           rw[if_neg h2];simp[text,ends,next,hf,hc,h10,mE,go,open_]
 . have e2:came s++[c]=s.line++[13,c]:=by unfold came;rw[he];simp
   have e3:(came s).length=s.line.length+1:=by unfold came;rw[he];simp
   rw[e2,List.drop_left,e3];unfold go;rw[if_pos rfl];by_cases h10:c=10
   . subst h10;have hf:fault s 10=0:=by unfold fault;rw[he];rfl
     simp[text,ends,next,hf,hc]
   . have hf:fault s c=2:=by
      unfold fault;rw[he,if_neg (by rw[aS.2 h10];simp)]
     simp[text,ends,next,hf,hc,h10,fails]
theorem Rh {s:St}{c:UInt8}(hc:s.code=0)(hn:(next s c).code=0):came (next s c)=if ends s c then [] else came s++[c]:=by
 unfold next at hn ⊢;rw[if_neg (by omega)] at hn ⊢;by_cases hf:fault s c=0
 . rw[if_neg (by omega)] at hn ⊢;by_cases h10:c=10
   . subst h10;have:ends s 10=true:=by unfold ends;simp[hc,hf]
     rw[this];rfl
   . have hE:ends s c=false:=by unfold ends;simp[h10]
     rw[if_neg h10,hE];have he:s.ending=false:=by
      unfold fault at hf;cases hh:s.ending
      . rfl
      . rw[hh,if_neg (by rw[aS.2 h10];simp)] at hf;omega
     by_cases mE:c=13
     . subst mE;rw[if_pos rfl];unfold came;rw[he];simp
     . rw[if_neg mE];unfold came;simp[he]
 . rw[if_pos hf] at hn;exact absurd hn hf
theorem Ni (s:St):begun s=decide (0<(came s).length):=by
 unfold begun came;cases s.ending <;> simp
theorem Gz {s:St}{c:UInt8}(h:(next s c).code≠0):ends s c=false:=by
 cases hE:ends s c
 . rfl
 . unfold ends at hE;rw[bR] at hE;obtain⟨h0,hf,rfl⟩:=hE;exact absurd (by unfold next;rw[if_neg (by omega),hf];rfl) h
theorem again {s:St}(c:UInt8)(h:s.code≠0):next s c=s∧text s c=[]∧ends s c=false:=by
 refine⟨by unfold next;rw[if_pos h],by unfold text;rw[if_neg (fun e=>h e.1)],by unfold ends;simp[h]⟩
theorem go_size (l:av):∀(t:av) (i:Nat),(go l i t).size=0∨i<(go l i t).size
 | [],i=>Or.inl rfl
 | c :: t, i => by
   unfold go;split
   . split
     . exact Or.inl rfl
     . split
       . right;show i<i+2;omega
       . right;show i<i+2;omega
   . split
     . right;show i<i+1;omega
     . split
       . right;show i<i+1;omega
       . split
         . right;show i<i+1;omega
         . rcases go_size l t (i+1) with h | h
           . exact Or.inl h
           . right;omega
theorem ad1 (l:av):∀(d i:Nat),l.length-i=d->i<=l.length->(go l i (l.drop i)).size<=l.length:=by
 intro d;induction d with
 | zero =>
   intro i hd hi;rw[Dh l i (by omega)];exact aA _
 | succ d ih =>
   intro i hd hi;have hlt:i<l.length:=by omega
   rw[Ke l i hlt];split
   . split
     . split
       . show i+2<=_;omega
       . show i+2<=_;omega
     . exact aA _
   . split
     . show i+1<=_;omega
     . split
       . show i+1<=_;omega
       . split
         . show i+1<=_;omega
         . exact ih (i+1) (by omega) (by omega)
theorem of_le (l:av):(of l).size<=l.length:=ad1 l _ 0 rfl (aA _)
theorem YG (l:av)(k:Nat)(hk:k<=l.length):∀(d i:Nat),l.length-i=d->i<=k ->
 go (l.take k) i ((l.take k).drop i)=if 0<(go l i (l.drop i)).size∧(go l i (l.drop i)).size<=k then go l i (l.drop i) else open_:=by
 intro d;induction d with
 | zero =>
   intro i hd hi;rw[Dh l i (by omega),Dh (l.take k) i (by rw[bY];omega),if_neg (fun h=>by have:=h.1;simp[open_] at this)]
 | succ d ih =>
   intro i hd hi;have hlt:i<l.length:=by omega
   by_cases hik:i=k
   . subst hik;rw[Dh (l.take i) i (by rw[bY];omega)];rw[if_neg];rintro ⟨h1,h2⟩;rcases go_size l (l.drop i) i with h | h <;> omega
   . have hlk:(l.take k).length=k:=by rw[bY];omega
     have hi2:i<(l.take k).length:=by omega
     have e0:(l.take k)[i]=l[i]:=by simp
     have et:(l.take k).take i=l.take i:=by rw[List.take_take,dV (by omega)]
     rw[Ke (l.take k) i hi2,Ke l i hlt,e0];by_cases mE:l[i]=13
     . rw[if_pos mE,if_pos mE];by_cases h2:i+1<k
       . have h2l:i+1<(l.take k).length:=by omega
         have YH:i+1<l.length:=by omega
         have e1:(l.take k)[i+1]=l[i+1]:=by simp
         rw[dif_pos h2l,dif_pos YH,e1,et];by_cases h10:l[i+1]=10
         . rw[if_pos h10,if_pos ⟨by show 0<i+2;omega,by show i+2<=k;omega⟩]
         . rw[if_neg h10,if_pos ⟨by show 0<i+2;omega,by show i+2<=k;omega⟩]
       . rw[dif_neg (show ¬i+1<(l.take k).length by omega)];by_cases YH:i+1<l.length
         . rw[dif_pos YH];by_cases h10:l[i+1]=10
           . rw[if_pos h10,if_neg (fun h=>by have:i+2<=k:=h.2;omega)]
           . rw[if_neg h10,if_neg (fun h=>by have:i+2<=k:=h.2;omega)]
         . rw[dif_neg YH,if_neg (fun h=>by have:=h.1;simp[open_] at this)]
     . rw[if_neg mE,if_neg mE];by_cases h10:l[i]=10
       . rw[if_pos h10,if_pos h10,if_pos ⟨by show 0<i+1;omega,by show i+1<=k;omega⟩]
       . rw[if_neg h10,if_neg h10];by_cases hv:Ch.visible l[i].toNat=false
         . rw[if_pos hv,if_pos hv,if_pos ⟨by show 0<i+1;omega,by show i+1<=k;omega⟩]
         . rw[if_neg hv,if_neg hv];by_cases h2:i=200
           . rw[if_pos h2,if_pos h2,if_pos ⟨by show 0<i+1;omega,by show i+1<=k;omega⟩]
           . rw[if_neg h2,if_neg h2];exact ih (i+1) (by omega) (by omega)
theorem I5 (l:av)(k:Nat)(hk:k<=l.length):of (l.take k)=if 0<(of l).size∧(of l).size<=k then of l else open_:=YG l k hk _ 0 rfl (aA _)
def fold (s:St)(l:av):St:=l.foldl next s
theorem oJ (s:St)(l:av)(c:UInt8):fold s (l++[c])=next (fold s l) c:=by simp[fold]
theorem xk (l:av):∀j,j<=l.length->((of l).size=0∨j<(of l).size)->Good (fold start (l.take j))∧(fold start (l.take j)).code=0∧came (fold start (l.take j))=l.take j
 | 0,_,_=>⟨Good.start,rfl,rfl⟩
 | j + 1, hj, hs => by
   obtain⟨hg,hc,hcm⟩:=xk l j (by omega) (by omega);have hlt:j<l.length:=by omega
   have e:l.take (j+1)=l.take j++[l[j]]:=bO hlt;have hoc:=I4 hg hc l[j];rw[hcm,<-e,I5 l (j+1) hj,if_neg (by omega)] at hoc;obtain⟨_,h2,h3,_⟩:=hoc;have hE:ends (fold start (l.take j)) l[j]=false:=h2.symm;have hC:(next (fold start (l.take j)) l[j]).code=0:=h3.symm;rw[e,oJ];refine⟨tT hg,hC,?_⟩;rw[Rh hc hC,hE,hcm];rfl
theorem Di (l:av)(j:Nat)(hj:j<l.length)(hs:(of l).size=0∨j+1<(of l).size):ends (fold start (l.take j)) l[j]=false∧(next (fold start (l.take j)) l[j]).code=0:=by
 obtain⟨hg,hc,hcm⟩:=xk l j (by omega) (by omega);have e:l.take (j+1)=l.take j++[l[j]]:=bO hj;have hoc:=I4 hg hc l[j];rw[hcm,<-e,I5 l (j+1) (by omega),if_neg (by omega)] at hoc;exact⟨hoc.2.1.symm,hoc.2.2.1.symm⟩
theorem GA (l:av)(j:Nat)(hj:j<l.length)(hs:j+1=(of l).size):ends (fold start (l.take j)) l[j]=(of l).ended∧(next (fold start (l.take j)) l[j]).code=(of l).code∧text (fold start (l.take j)) l[j]=(of l).text:=by
 obtain⟨hg,hc,hcm⟩:=xk l j (by omega) (by omega);have e:l.take (j+1)=l.take j++[l[j]]:=bO hj;have hoc:=I4 hg hc l[j];rw[hcm,<-e,I5 l (j+1) (by omega),if_pos (by omega)] at hoc;exact⟨hoc.2.1.symm,hoc.2.2.1.symm,hoc.1.symm⟩
theorem P9 (l:av):∀(t:av) (i:Nat),(go l i t).size=0∨((go l i t).code=0∧(go l i t).ended=true)∨((go l i t).code≠0∧(go l i t).ended=false)
 | [],i=>Or.inl rfl
 | c :: t, i => by
   unfold go;split
   . split
     . exact Or.inl rfl
     . split
       . exact Or.inr (Or.inl ⟨rfl,rfl⟩)
       . exact Or.inr (Or.inr ⟨by show 2≠0;omega,rfl⟩)
   . split
     . exact Or.inr (Or.inr ⟨by show 2≠0;omega,rfl⟩)
     . split
       . exact Or.inr (Or.inr ⟨by show 3≠0;omega,rfl⟩)
       . split
         . exact Or.inr (Or.inr ⟨by show 4≠0;omega,rfl⟩)
         . exact P9 l t (i+1)
theorem CU (l:av):(of l).size=0∨((of l).code=0∧(of l).ended=true)∨((of l).code≠0∧(of l).ended=false):=P9 l l 0
theorem go_open (l:av):∀(t:av) (i:Nat),(go l i t).size=0->go l i t=open_
 | [],i,_=>rfl
 | c :: t, i, h => by
   unfold go at h ⊢;split at h
   . rename_i mE;rw[if_pos mE];split at h
     . rfl
     . split at h
       . exact absurd (show i+2=0 from h) (by omega)
       . exact absurd (show i+2=0 from h) (by omega)
   . rename_i mE;rw[if_neg mE];split at h
     . exact absurd (show i+1=0 from h) (by omega)
     . rename_i h10;rw[if_neg h10];split at h
       . exact absurd (show i+1=0 from h) (by omega)
       . rename_i hv;rw[if_neg hv];split at h
         . exact absurd (show i+1=0 from h) (by omega)
         . rename_i h2;rw[if_neg h2];exact go_open l t (i+1) h
theorem YI (l:av)(h:(of l).size=0):of l=open_:=go_open l l 0 h
end Go.Proofs.YtjmndjmhjleabaaGreatDoor.Ln
namespace Go.Proofs.YtjmndjmhjleabaaGreatDoor.Ch
def jH:Nat->Nat->av
 | 0,n=>[(48+n).toUInt8]
 | f+1,n=>if n<10 then [(48+n).toUInt8] else jH f (n / 10)++[(48+n % 10).toUInt8]
theorem jX:∀f n,(jH f n).length<=f+1∧1<=(jH f n).length
 | 0,n=>by simp[jH]
 | f + 1, n => by
   unfold jH;split
   . simp
   . have:=jX f (n / 10);simp;omega
theorem YJ (b:UInt8)(h:capital b.toNat=false):qC b=b:=by
 unfold qC vD;rw[if_neg];intro hc;unfold capital at h;rw[aI (by omega),aI (by omega)] at h;cases h
theorem U5 (b:UInt8)(h:capital b.toNat=true):((qC b).toNat:Int)=b.toNat-65+97:=by
 unfold capital at h;rw[dh,bR,bR] at h;unfold qC vD;rw[if_pos (by omega),UInt8.toNat_add];have:(32:UInt8).toNat=32:=rfl;rw[this];omega
theorem Dj (p:UInt8->Bool)(a:UInt8)(t:av):
 ((a::t).reverse.dropWhile p).reverse=if ((t.reverse.dropWhile p).reverse)=[] then (if p a then [] else [a]) else a::(t.reverse.dropWhile p).reverse:=by
 rw[List.reverse_cons,List.dropWhile_append];by_cases h:(t.reverse.dropWhile p)=[]
 . rw[h];simp[List.dropWhile];cases p a <;> simp
 . have h1:(List.dropWhile p t.reverse).isEmpty=false:=by
    cases h2:List.dropWhile p t.reverse with
    | nil=>exact absurd h2 h
    | cons _ _=>rfl
   rw[h1];simp[h]
theorem GD (p:UInt8->Bool):∀l:av,(((l.dropWhile p).reverse.dropWhile p).reverse)=((l.reverse.dropWhile p).reverse).dropWhile p
 | []=>rfl
 | a :: t => by
   rw[Dj];cases hp:p a
   . rw[dW,hp];simp only[dI,if_false];rw[Dj];split <;> simp[hp]
   . rw[dW,hp];simp only[if_true];rw[GD p t];split
     . rename_i h;rw[h]
     . rw[dW,hp];simp
def ws:av:=[32,9]
theorem GH (l:av):Lib.trimRightS (Lib.trimLeftS l ws) ws=Lib.trimS l ws:=GD (ws.contains ·) l
theorem Qa (b:UInt8):ws.contains b=(((b.toNat:Int)==32)||((b.toNat:Int)==9)):=by
 have hb:=b.toNat_lt;have:=(show ∀n:Fin 256,ws.contains n.val.toUInt8=((((n.val.toUInt8).toNat:Int)==32)||(((n.val.toUInt8).toNat:Int)==9)) by decide +kernel) ⟨b.toNat,hb⟩;have e:b.toNat.toUInt8=b:=by simp
 simpa only[e] using this
theorem GI (x:ay)(h:0<x.size):x.data.toList=x[0]::x.data.toList.drop 1:=by
 have:=aD (l:=x.data.toList) (i:=0) (by simpa using h);rw[List.drop_zero] at this;exact this
theorem GJ (x:ay)(h:0<x.size):x.data.toList=x.data.toList.take (x.size-1)++[x[x.size-1]]:=by
 have:=jr x (x.size-1) (by omega);rw[<-this,kY x _ (by omega)]
theorem left_step (x:ay)(h:0<x.size)(hp:ws.contains x[0]=true):Lib.trimLeftS (x.data.toList.drop 1) ws=Lib.trimLeftS x.data.toList ws:=by
 unfold Lib.trimLeftS;conv=>rhs;rw[GI x h,dW,hp]
 rfl
theorem left_stop (x:ay)(hp:∀h:0<x.size,ws.contains (x[0]'h)=false):Lib.trimLeftS x.data.toList ws=x.data.toList:=by
 unfold Lib.trimLeftS;by_cases h:0<x.size
 . rw[GI x h,dW,hp h];rfl
 . obtain rfl:=empty_eq x (by omega);rfl
theorem right_step (x:ay)(h:0<x.size)(hp:ws.contains (x[x.size-1]'(by omega))=true):Lib.trimRightS (x.data.toList.take (x.size-1)) ws=Lib.trimRightS x.data.toList ws:=by
 unfold Lib.trimRightS;conv=>rhs;rw[GJ x h,dX,List.reverse_cons,List.reverse_nil,dz,List.singleton_append,dW,hp]
 rfl
theorem right_stop (x:ay)(hp:∀h:0<x.size,ws.contains (x[x.size-1]'(by omega))=false):Lib.trimRightS x.data.toList ws=x.data.toList:=by
 unfold Lib.trimRightS;by_cases h:0<x.size
 . rw[GJ x h,dX,List.reverse_cons,List.reverse_nil,dz,List.singleton_append,dW,hp h];simp
 . obtain rfl:=empty_eq x (by omega);rfl
end Go.Proofs.YtjmndjmhjleabaaGreatDoor.Ch
namespace Go.Proofs.YtjmndjmhjleabaaGreatDoor.Fd
def at_ (c:UInt8)(l:av):Nat:=l.findIdx (·==c)
theorem U6 (c:UInt8)(l:av):at_ c l<=l.length:=List.findIdx_le_length
theorem CV {c:UInt8}{l:av}(h:at_ c l<l.length):l[at_ c l]=c:=by
 have:=List.findIdx_getElem (w:=h);exact aT.1 this
theorem Dk {c:UInt8}{l:av}{j:Nat}(h:j<at_ c l)(hj:j<l.length):l[j]≠c:=by
 have:=List.not_of_lt_findIdx h;intro e;exact absurd (aT.2 e) (by simpa using this)
theorem Qb {c:UInt8}{l:av}(h:∀j (hj:j<l.length),l[j]≠c):at_ c l=l.length:=by
 rcases aU (at_ c l) l.length with g | g
 . exact absurd (CV g) (h _ g)
 . exact Nat.le_antisymm (U6 c l) g
theorem aaD {c:UInt8}{l:av}{k:Nat}(hk:k<l.length)(h:l[k]=c)(hf:∀j (hj:j<k),l[j]≠c):at_ c l=k:=by
 rcases Nat.lt_trichotomy (at_ c l) k with g | g | g
 . exact absurd (CV (Nat.lt_trans g hk)) (hf _ g)
 . exact g
 . exact absurd h (Dk g hk)
structure Told where
 name:av
 value:av
 code:Nat
def bad (c:Nat):Told:=⟨[],[],c⟩
def of (l:av):Told :=
 if at_ 58 l=l.length then bad 5
 else if Ch.isToken (l.take (at_ 58 l))=false then bad 6
 else if 40<at_ 58 l then bad 4
 else if Ch.iy (l.drop (at_ 58 l+1))=false then bad 3
 else ⟨l.take (at_ 58 l),Lib.trimS (l.drop (at_ 58 l+1)) Ch.ws,0⟩
def text (n v:av):av×Nat :=
 if Ch.isToken n=false then ([],6)
 else if 40<n.length∨200<n.length+2+v.length then ([],4)
 else if Ch.iy v=false∨Lib.trimS v Ch.ws≠v then ([],3)
 else (n++[58,32]++v,0)
end Go.Proofs.YtjmndjmhjleabaaGreatDoor.Fd
namespace Go.Proofs.YtjmndjmhjleabaaGreatDoor.Ck
structure Told where
 body:av
 used:Nat
 over:Bool
 code:Nat
def size (t:av):Int×Bool:=Ch.number 16 6 (Lib.trimS (t.take (Fd.at_ 59 t)) Ch.ws)
def trail:Nat->av->Nat->Told
 | 0,_,_=>⟨[],0,false,0⟩
 | f + 1, l, n =>
   if (Ln.of l).code≠0∨(Ln.of l).ended=false then ⟨[],(Ln.of l).size,false,(Ln.of l).code⟩
   else if (Ln.of l).text=[] then ⟨[],(Ln.of l).size,true,0⟩
   else if n=16 then ⟨[],(Ln.of l).size,false,8⟩
   else if (Fd.of (Ln.of l).text).code≠0 then ⟨[],(Ln.of l).size,false,(Fd.of (Ln.of l).text).code⟩
   else let r:=trail f (l.drop (Ln.of l).size) (n+1);⟨r.body,(Ln.of l).size+r.used,r.over,r.code⟩
def go:Nat->av->Nat->Told
 | 0,_,_=>⟨[],0,false,0⟩
 | f + 1, l, n =>
   if (Ln.of l).code≠0∨(Ln.of l).ended=false then ⟨[],(Ln.of l).size,false,(Ln.of l).code⟩
   else if (size (Ln.of l).text).2=false then ⟨[],(Ln.of l).size,false,7⟩
   else if 4000<n+(size (Ln.of l).text).1.toNat then ⟨[],(Ln.of l).size,false,4⟩
   else if (size (Ln.of l).text).1.toNat=0 then
    let r:=trail (f+1) (l.drop (Ln.of l).size) 0;⟨r.body,(Ln.of l).size+r.used,r.over,r.code⟩
   else
    let k:=(size (Ln.of l).text).1.toNat
    let d:=l.drop (Ln.of l).size
    if d.length<k then ⟨d,(Ln.of l).size+d.length,false,0⟩
    else
     let e:=d.drop k
     if (Ln.of e).code≠0∨(Ln.of e).ended=false then ⟨d.take k,(Ln.of l).size+k+(Ln.of e).size,false,(Ln.of e).code⟩
     else if (Ln.of e).text≠[] then ⟨d.take k,(Ln.of l).size+k+(Ln.of e).size,false,5⟩
     else let r:=go f (e.drop (Ln.of e).size) (n+k);⟨d.take k++r.body,(Ln.of l).size+k+(Ln.of e).size+r.used,r.over,r.code⟩
def of (l:av):Told:=go (l.length+1) l 0
structure St where
 ph:Nat
 ln:Ln.St
 left:Nat
 total:Nat
 count:Nat
 code:Nat
def start:St:=⟨0,Ln.start,0,0,0,0⟩
def line (s:St)(t:av):St :=
 if s.ph=0 then
  (if (size t).2 = false then { s with code := 7 }
   else if 4000<s.total+(size t).1.toNat then { s with code:=4 }
   else if (size t).1.toNat=0 then { s with ph:=3 }
   else { s with ph:=1,left:=(size t).1.toNat,total:=s.total+(size t).1.toNat })
 else if s.ph=2 then (if t≠[] then { s with code:=5 } else { s with ph:=0 })
 else if t=[] then { s with ph:=4 }
 else if s.count=16 then { s with code:=8 }
 else if (Fd.of t).code≠0 then { s with code:=(Fd.of t).code }
 else { s with count:=s.count+1 }
def next (s:St)(c:UInt8):St :=
 if s.code≠0 then s
 else if s.ph=4 then { s with code:=18 }
 else if s.ph=1 then { s with left:=s.left-1,ph:=if s.left<=1 then 2 else 1 }
 else if (Ln.next s.ln c).code≠0 then { s with code:=(Ln.next s.ln c).code }
 else if Ln.ends s.ln c=true then line { s with ln:=Ln.start } (Ln.text s.ln c)
 else { s with ln:=Ln.next s.ln c }
def out (s:St)(c:UInt8):av:=if s.code=0∧s.ph=1 then [c] else []
def run:St->av->Told
 | _,[]=>⟨[],0,false,0⟩
 | s, c :: t =>
   if (next s c).code≠0 then ⟨out s c,1,false,(next s c).code⟩
   else if (next s c).ph=4 then ⟨out s c,1,true,0⟩
   else ⟨out s c++(run (next s c) t).body,1+(run (next s c) t).used,(run (next s c) t).over,(run (next s c) t).code⟩
structure Same (a b:Told):Prop where
 body:a.body=b.body
 over:a.over=b.over
 code:a.code=b.code
 used:(a.code≠0∨a.over=true)->a.used=b.used
theorem Same.refl (a:Told):Same a a:=⟨rfl,rfl,rfl,fun _=>rfl⟩
def shift (x:av)(k:Nat)(r:Told):Told:=⟨x++r.body,k+r.used,r.over,r.code⟩
theorem Same.shift {a b:Told}(h:Same a b)(x:av)(k:Nat):Same (Ck.shift x k a) (Ck.shift x k b) :=
 ⟨by simp[Ck.shift,h.body],h.over,h.code,fun e=>by show k+a.used=k+b.used;rw[h.used e]⟩
theorem nS (x y:av)(j k:Nat)(r:Told):shift x j (shift y k r)=shift (x++y) (j+k) r:=by
 simp[shift,bL]
theorem Ar {s:St}{c:UInt8}(t:av)(h1:(next s c).code=0)(h2:(next s c).ph≠4):run s (c::t)=shift (out s c) 1 (run (next s c) t):=by
 rw[run,if_neg (by omega),if_neg h2];rfl
structure nM (s:St):Prop where
 code:s.code=0
 ph:s.ph=0∨s.ph=2∨s.ph=3
 ln:s.ln=Ln.start
theorem YK {s:St}{x:Ln.St}(h:nM s)(c:UInt8)(hq:Ln.ends x c=false)(hc:(Ln.next x c).code=0):next { s with ln:=x } c={ s with ln:=Ln.next x c }:=by
 have h1:=h.code;have h2:=h.ph;unfold next;rw[if_neg (by simpa using h1),if_neg (by show ¬s.ph=4;omega),if_neg (by show ¬s.ph=1;omega),if_neg (by simpa using hc),if_neg (by simp[hq])]
theorem U7 {s:St}{x:Ln.St}(h:nM s)(c:UInt8):out { s with ln:=x } c=[]:=by
 have h2:=h.ph;unfold out;rw[if_neg (fun e=>by have:s.ph=1:=e.2;omega)]
theorem Dl {s:St}(h:nM s)(l:av):∀j,j<=l.length->((Ln.of l).size=0∨j<(Ln.of l).size)->run s l=shift [] j (run { s with ln:=Ln.fold Ln.start (l.take j) } (l.drop j))
 | 0, _, _ => by
   have e:{ s with ln:=Ln.fold Ln.start (l.take 0) }=s:=by
    have:=h.ln;cases s;simp only at this;subst this;rfl
   rw[e];simp[shift]
 | j + 1, hj, hs => by
   have hlt:j<l.length:=by omega
   rw[Dl h l j (by omega) (by omega),aD hlt];obtain⟨hE,hC⟩:=Ln.Di l j hlt (by omega);have hn:=YK h l[j] hE hC;have h1:=h.code;have h2:=h.ph;rw[Ar _ (by rw[hn];exact h1) (by rw[hn];show s.ph≠4;omega),U7 h,hn,nS,dz,bO hlt,Ln.oJ]
theorem U8 {s:St}(h:nM s)(l:av)(ho:(Ln.of l).size=0):(run s l).body=[]∧(run s l).over=false∧(run s l).code=0:=by
 rw[Dl h l l.length (aM _) (Or.inl ho),dY];exact⟨rfl,rfl,rfl⟩
theorem Dm {s:St}(h:nM s)(l:av)(ho:0<(Ln.of l).size):run s l =
 if (Ln.of l).code≠0 then ⟨[],(Ln.of l).size,false,(Ln.of l).code⟩
 else if (line s (Ln.of l).text).code≠0 then ⟨[],(Ln.of l).size,false,(line s (Ln.of l).text).code⟩
 else if (line s (Ln.of l).text).ph=4 then ⟨[],(Ln.of l).size,true,0⟩
 else shift [] (Ln.of l).size (run (line s (Ln.of l).text) (l.drop (Ln.of l).size)):=by
 obtain⟨j,hj⟩:∃j,(Ln.of l).size=j+1:=⟨(Ln.of l).size-1,by omega⟩;have hle:=Ln.of_le l;have hlt:j<l.length:=by omega
 have h1:=h.code;have h2:=h.ph;obtain⟨hE,hC,hT⟩:=Ln.GA l j hlt hj.symm;have hsl:{ s with ln:=Ln.start }=s:=by
  have:=h.ln;cases s;simp only at this;subst this;rfl
 have hn:next { s with ln:=Ln.fold Ln.start (l.take j) } l[j]=if (Ln.of l).code≠0 then { s with ln:=Ln.fold Ln.start (l.take j),code:=(Ln.of l).code } else line s (Ln.of l).text:=by
  unfold next;rw[if_neg (by simpa using h1),if_neg (by show ¬s.ph=4;omega),if_neg (by show ¬s.ph=1;omega)];show(if (Ln.next (Ln.fold Ln.start (l.take j)) l[j]).code≠0 then _ else if Ln.ends (Ln.fold Ln.start (l.take j)) l[j]=true then line { s with ln:=Ln.start } (Ln.text (Ln.fold Ln.start (l.take j)) l[j]) else _)=_;rw[hC];by_cases hc:(Ln.of l).code=0
  . have hcn:¬(Ln.of l).code≠0:=by omega
    rw[if_neg hcn,if_neg hcn,hE,hT,hsl];rcases Ln.CU l with hk | hk | hk
    . omega
    . rw[if_pos hk.2]
    . exact absurd hc hk.1
  . rw[if_pos hc,if_pos hc]
 rw[Dl h l j (by omega) (Or.inr (by omega)),aD hlt,run,hn,U7 h,hj];by_cases hc:(Ln.of l).code=0
 . have hcn:¬(Ln.of l).code≠0:=by omega
   simp only[if_neg hcn];by_cases hlc:(line s (Ln.of l).text).code=0
   . have hln:¬(line s (Ln.of l).text).code≠0:=by omega
     simp only[if_neg hln];by_cases h4:(line s (Ln.of l).text).ph=4
     . rw[if_pos h4,if_pos h4];simp[shift]
     . rw[if_neg h4,if_neg h4];simp[shift,bL]
   . rw[if_pos hlc,if_pos hlc];simp[shift]
 . rw[if_pos hc];rw[if_pos (show({ s with ln:=Ln.fold Ln.start (l.take j),code:=(Ln.of l).code }:St).code≠0 from hc),if_pos hc];simp[shift]
theorem GK (s:St)(h0:s.code=0):∀(k:Nat) (l:av),run { s with ph:=1,left:=k+1 } l =
 if l.length<k+1 then ⟨l,l.length,false,0⟩ else shift (l.take (k+1)) (k+1) (run { s with ph:=2,left:=0 } (l.drop (k+1)))
 | k,[]=>by rw[if_pos (by simp)];rfl
 | k, c :: t => by
   have ho:out { s with ph:=1,left:=k+1 } c=[c]:=by unfold out;rw[if_pos ⟨h0,rfl⟩]
   cases k with
   | zero =>
     have hn:next { s with ph:=1,left:=0+1 } c={ s with ph:=2,left:=0 }:=by
      unfold next;rw[if_neg (by simpa using h0),if_neg (by show ¬1=4;omega),if_pos rfl];rfl
     rw[Ar t (by rw[hn];exact h0) (by rw[hn];show 2≠4;omega),ho,hn,if_neg (by simp)];rfl
   | succ k =>
     have hn:next { s with ph:=1,left:=k+1+1 } c={ s with ph:=1,left:=k+1 }:=by
      unfold next;rw[if_neg (by simpa using h0),if_neg (by show ¬1=4;omega),if_pos rfl];show({ s with ph:=if k+1+1<=1 then 2 else 1,left:=k+1+1-1 }:St)=_;rw[if_neg (by omega)];rfl
     rw[Ar t (by rw[hn];exact h0) (by rw[hn];show 1≠4;omega),ho,hn,GK s h0 k t];by_cases hl:t.length<k+1
     . rw[if_pos hl,if_pos (by simp;omega)];simp[shift];omega
     . rw[if_neg hl,if_neg (by simp;omega),nS];have e:k+1+1=(k+1)+1:=rfl;rw[e,List.take_succ_cons,List.drop_succ_cons,Nat.add_comm 1 (k+1)];rfl
end Go.Proofs.YtjmndjmhjleabaaGreatDoor.Ck
namespace Go.Proofs.YtjmndjmhjleabaaGreatDoor.Sp
structure Up where
 id:Int
 size:Int
 note:ay
 bytes:av
 sent:Int
structure St where
 l:List Up
 last:Int
def new:St:=⟨[],0⟩
def used:List Up->Nat
 | []=>0
 | u::t=>u.bytes.length+used t
def place:List Up->Int->Option Nat
 | [],_=>none
 | u::t,id=>if u.id=id then some 0 else (place t id).map (·+1)
def nZ (s:St)(id:Int)(f:Nat->Up->St×Nat):St×Nat :=
 match place s.l id with
 | none=>(s,10)
 | some i => match s.l[i]? with
   | none=>(s,10)
   | some u=>f i u
def create (s:St)(size:Int)(m:ay):St×Int×Nat :=
 if size < -1 then (s,0,1) else if 2000<size∨100<m.size then (s,0,4) else if Ch.iy m.data.toList=false∨Lib.trimS m.data.toList Ch.ws≠m.data.toList then (s,0,3) else if 12<=s.l.length then (s,0,8)
 else (⟨s.l++[⟨s.last+1,size,m,[],0⟩],s.last+1⟩,s.last+1,0)
def append (s:St)(id off:Int)(b:av):St×Nat:=nZ s id fun i u =>
 if u.sent≠0 then (s,19) else if off≠u.bytes.length then (s,17) else if 2000<u.bytes.length+b.length∨(0<=u.size∧u.size<u.bytes.length+b.length) then (s,4) else if 6000<used s.l+b.length then (s,16)
 else (⟨s.l.set i { u with bytes:=u.bytes++b },s.last⟩,0)
def declare (s:St)(id size:Int):St×Nat:=nZ s id fun i u =>
 if 0<=u.size then (s,18) else if size<0 then (s,1) else if 2000<size∨size<u.bytes.length then (s,4)
 else (⟨s.l.set i { u with size:=size },s.last⟩,0)
def drop (s:St)(id:Int):St×Nat:=nZ s id fun i _=>(⟨s.l.eraseIdx i,s.last⟩,0)
structure ad2 (last:Int)(u:Up):Prop where
 low:1<=u.id
 high:u.id<=last
 GL:-1<=u.size
 Kg:u.size<=2000
 long:u.bytes.length<=2000
 fits:0<=u.size->u.bytes.length<=u.size
 U9:0<=u.sent
 Va:u.sent<=2
 whole:u.sent≠0->u.size=u.bytes.length
 note:u.note.size<=100
structure Ok (s:St):Prop where
 few:s.l.length<=12
 quota:used s.l<=6000
 Dn:0<=s.last
 rise:(s.l.map (·.id)).Pairwise (·<·)
 all:∀u∈s.l,ad2 s.last u
theorem Ok.new:Ok new:=⟨by simp[Sp.new],by simp[Sp.new,used],by simp[Sp.new],by simp[Sp.new],fun u h=>by simp[Sp.new] at h⟩
theorem sJ:∀a b:List Up,used (a++b)=used a+used b
 | [],b=>by simp[used]
 | u::t,b=>by rw[dZ,used,used,sJ t b];omega
theorem Kh:∀(l:List Up) (i:Nat) (u v:Up),l[i]? = some u->used (l.set i v)+u.bytes.length=used l+v.bytes.length
 | [],i,u,v,h=>by simp at h
 | x :: t, 0, u, v, h => by
   have h:x=u:=by simpa using h
   subst h;rw[eu,used,used];omega
 | x :: t, i + 1, u, v, h => by
   have:=Kh t i u v (by simpa using h);rw[List.set_cons_succ,used,used];omega
theorem Dp:∀(l:List Up) (i:Nat),used (l.eraseIdx i)<=used l
 | [],i=>by simp[used]
 | x::t,0=>by rw[List.eraseIdx_cons_zero,used];omega
 | x::t,i+1=>by have:=Dp t i;rw[List.eraseIdx_cons_succ,used,used];omega
theorem Dq:∀(l:List Up) (id:Int) (i:Nat),place l id=some i->∃u,l[i]? = some u∧u.id=id
 | [],id,i,h=>by cases h
 | x :: t, id, i, h => by
   rw[place] at h;split at h
   . rename_i hx;injection h with h;subst h;exact⟨x,rfl,hx⟩
   . cases hp:place t id with
     | none=>rw[hp] at h;cases h
     | some j =>
       rw[hp] at h;injection h with h;obtain⟨u,h1,h2⟩:=Dq t id j hp;subst h;exact⟨u,by simpa using h1,h2⟩
theorem Ok.set {s:St}(h:Ok s){i:Nat}{u v:Up}(hu:s.l[i]? = some u)(hid:v.id=u.id)(hv:ad2 s.last v)(hq:used s.l+v.bytes.length<=6000+u.bytes.length):Ok ⟨s.l.set i v,s.last⟩:=by
 refine⟨by simpa using h.few,?_,h.Dn,?_,fun x hx=>?_⟩
 . have:=Kh s.l i u v hu;show used (s.l.set i v)<=6000;omega
 . have:(s.l.set i v).map (·.id)=s.l.map (·.id):=by
    rw[List.map_set,hid];refine List.ext_getElem? fun k=>?_;rw[eG];split
    . rename_i e;subst e;split
      . rw[dB,hu];rfl
      . rename_i hk;rw[eU (by omega)]
    . rfl
   show((s.l.set i v).map (·.id)).Pairwise (·<·);rw[this];exact h.rise
 . rcases List.mem_or_eq_of_mem_set hx with hx | hx
   . exact h.all x hx
   . subst hx;exact hv
theorem Ok.at_ {s:St}(h:Ok s){id:Int}{f:Nat->Up->St×Nat}(hf:∀i u,s.l[i]? = some u->Ok (f i u).1):Ok (nZ s id f).1:=by
 unfold nZ;split
 . exact h
 . split
   . exact h
   . rename_i i hi _ u hu;exact hf i u hu
theorem Ok.create {s:St}(h:Ok s)(size:Int)(m:ay):Ok (create s size m).1:=by
 unfold Sp.create;split
 . exact h
 . split
   . exact h
   . split
     . exact h
     . split
       . exact h
       . rename_i h1 h2 _ h4;have hl:=h.Dn;refine⟨by simp;omega,?_,by show 0<=s.last+1;omega,?_,fun u hu=>?_⟩
         . show used (s.l++[_])<=6000;rw[sJ];have:=h.quota;simp[used];omega
         . show((s.l++[(⟨s.last+1,size,m,[],0⟩:Up)]).map (·.id)).Pairwise (·<·);rw[bG,List.pairwise_append];refine⟨h.rise,by simp,fun a ha b hb=>?_⟩;obtain⟨u,hu,rfl⟩:=aN.1 ha;have:=(h.all u hu).high;simp at hb;subst hb;show u.id<s.last+1;omega
         . rcases bB.1 hu with hu | hu
           . have:=h.all u hu;exact⟨this.low,by have:=this.high;show u.id<=s.last+1;omega,this.GL,this.Kg,this.long,this.fits,this.U9,this.Va,this.whole,this.note⟩
           . rw[bC.1 hu];exact⟨by show 1<=s.last+1;omega,aB _,by show -1<=size;omega,by show size<=2000;omega,by simp,fun e=>by simpa using e,by simp,by simp,fun e=>absurd rfl e,by show m.size<=100;omega⟩
theorem Ok.append {s:St}(h:Ok s)(id off:Int)(b:av):Ok (append s id off b).1:=by
 refine h.at_ fun i u hu=>?_;have hk:=h.all u (dL hu);have hq:=h.quota;split
 . exact h
 . split
   . exact h
   . split
     . exact h
     . split
       . exact h
       . rename_i h1 h2 h3 h4;refine h.set hu rfl ⟨hk.low,hk.high,hk.GL,hk.Kg,by simp;omega,fun e=>?_,hk.U9,hk.Va,fun e=>absurd e (by simpa using h1),hk.note⟩ (by simp;omega);have e':0<=u.size:=e;simp only[aW];omega
theorem Ok.declare {s:St}(h:Ok s)(id size:Int):Ok (declare s id size).1:=by
 refine h.at_ fun i u hu=>?_;have hk:=h.all u (dL hu);have hq:=h.quota;split
 . exact h
 . split
   . exact h
   . split
     . exact h
     . rename_i h1 h2 h3;refine h.set hu rfl ⟨hk.low,hk.high,by show -1<=size;omega,by show size<=2000;omega,hk.long,fun _=>by show(u.bytes.length:Int)<=size;omega,hk.U9,hk.Va,fun e=>?_,hk.note⟩ (by show used s.l+u.bytes.length<=_;omega);have:=hk.whole e;omega
theorem Ok.drop {s:St}(h:Ok s)(id:Int):Ok (drop s id).1:=by
 refine h.at_ fun i u hu=>?_;refine⟨dG (List.length_eraseIdx_le ..) h.few,dG (Dp s.l i) h.quota,h.Dn,?_,fun x hx=>h.all x (List.mem_of_mem_eraseIdx hx)⟩;show((s.l.eraseIdx i).map (·.id)).Pairwise (·<·);exact h.rise.sublist ((List.eraseIdx_sublist s.l i).map _)
theorem GN (l:List Up)(k:Nat)(h:k<l.length):used (l.take (k+1))=used (l.take k)+l[k].bytes.length:=by
 rw[bO h,sJ];simp[used]
theorem Qc (l:List Up)(k:Nat):used (l.take k)<=used l:=by
 conv=>rhs;rw[<-bX k l,sJ]
 omega
theorem Vb (l:List Up)(k:Nat)(h:k<l.length):l[k].bytes.length<=used l:=by
 have h1:=GN l k h;have h2:=Qc l (k+1);omega
theorem Ki:∀(l:List Up) (id:Int) (k:Nat) (h:k<l.length),l[k].id=id->(∀u∈l.take k,u.id≠id)->place l id=some k
 | x::t,id,0,_,e,_=>by rw[place,if_pos (by simpa using e)]
 | x :: t, id, k + 1, h, e, hn => by
   rw[place,if_neg (hn x (by simp)),Ki t id k (by simpa using h) (by simpa using e) (fun u hu=>hn u (by simp[hu]))];rfl
theorem Kj:∀(l:List Up) (id:Int),(∀u∈l,u.id≠id)->place l id=none
 | [],_,_=>rfl
 | x :: t, id, hn => by
   rw[place,if_neg (hn x (by simp)),Kj t id (fun u hu=>hn u (by simp[hu]))];rfl
theorem tV {l:List Up}{id:Int}{i:Nat}(h:place l id=some i):i<l.length:=by
 obtain⟨u,hu,_⟩:=Dq l id i h;exact(aQ.1 hu).1
theorem Au {s:St}{id:Int}{f:Nat->Up->St×Nat}(h:place s.l id=none):nZ s id f=(s,10):=by
 unfold nZ;rw[h]
theorem Av {s:St}{id:Int}{f:Nat->Up->St×Nat}{i:Nat}(h:place s.l id=some i):nZ s id f=f i (s.l[i]'(tV h)):=by
 unfold nZ;rw[h];simp only[dD (tV h)]
def pl (l:List Up)(id:Int):Int:=match place l id with
 | none=>-1
 | some i=>i
theorem zq {l:List Up}{id:Int}(h:place l id=none):pl l id=-1:=by unfold pl;rw[h]
theorem zu {l:List Up}{id:Int}{i:Nat}(h:place l id=some i):pl l id=i:=by unfold pl;rw[h]
theorem Dr (s:St)(size:Int)(m:ay):(create s size m).1.last<=s.last+1:=by
 unfold create;split
 . show s.last<=_;omega
 . split
   . show s.last<=_;omega
   . split
     . show s.last<=_;omega
     . split
       . show s.last<=_;omega
       . exact aB _
theorem Aw (s:St)(id:Int)(f:Nat->Up->St×Nat)(hf:∀i u,(f i u).1.last=s.last):(nZ s id f).1.last=s.last:=by
 unfold nZ;split
 . rfl
 . split
   . rfl
   . exact hf _ _
theorem Kk (s:St)(id off:Int)(b:av):(append s id off b).1.last=s.last:=Aw s id _ fun i u=>by
 split
 . rfl
 . split
   . rfl
   . split
     . rfl
     . split <;> rfl
theorem I6 (s:St)(id size:Int):(declare s id size).1.last=s.last:=Aw s id _ fun i u=>by
 split
 . rfl
 . split
   . rfl
   . split <;> rfl
theorem Ri (s:St)(id:Int):(drop s id).1.last=s.last:=Aw s id _ fun _ _=>rfl
def zw (s:St)(off:Int)(b:av)(i:Nat)(u:Up):St×Nat :=
 if u.sent≠0 then (s,19) else if off≠u.bytes.length then (s,17) else if 2000<u.bytes.length+b.length∨(0<=u.size∧u.size<u.bytes.length+b.length) then (s,4) else if 6000<used s.l+b.length then (s,16)
 else (⟨s.l.set i { u with bytes:=u.bytes++b },s.last⟩,0)
def jH (s:St)(size:Int)(i:Nat)(u:Up):St×Nat :=
 if 0<=u.size then (s,18) else if size<0 then (s,1) else if 2000<size∨size<u.bytes.length then (s,4)
 else (⟨s.l.set i { u with size:=size },s.last⟩,0)
def Vd (s:St)(i:Nat)(_:Up):St×Nat:=(⟨s.l.eraseIdx i,s.last⟩,0)
theorem Ve (s:St)(id off:Int)(b:av):append s id off b=nZ s id (zw s off b):=rfl
theorem Rj (s:St)(id size:Int):declare s id size=nZ s id (jH s size):=rfl
theorem abv (s:St)(id:Int):drop s id=nZ s id (Vd s):=rfl
end Go.Proofs.YtjmndjmhjleabaaGreatDoor.Sp
namespace Go.Proofs.YtjmndjmhjleabaaGreatDoor.Pm
def blank (c:UInt8):Bool:=c==32||c==9
def tok (c:UInt8):Bool:=Ch.token c.toNat
def run (p:UInt8->Bool)(l:av)(i:Nat):Nat:=((l.drop i).takeWhile p).length
theorem Kn {p:UInt8->Bool}{l:av}{i:Nat}(h:i<l.length)(hp:p l[i]=true):run p l i=1+run p l (i+1):=by
 unfold run;rw[aD h,eX,hp];simp only[if_true,aX];omega
theorem Ko {p:UInt8->Bool}{l:av}{i:Nat}(h:i<l.length)(hp:p l[i]=false):run p l i=0:=by
 unfold run;rw[aD h,eX,hp];rfl
theorem run_end (p:UInt8->Bool){l:av}{i:Nat}(h:l.length<=i):run p l i=0:=by
 unfold run;rw[aK h];rfl
theorem Vh (p:UInt8->Bool)(l:av)(i:Nat)(h:i<=l.length):i+run p l i<=l.length:=by
 unfold run;have:=(List.takeWhile_prefix (l:=l.drop i) p).length_le;rw[bV] at this;omega
def blanks (l:av)(i:Nat):Nat:=i+run blank l i
def word (l:av)(i:Nat):Nat:=run tok l i
theorem Kq (p:UInt8->Bool)(l:av)(i:Nat):l.drop (i+run p l i)=(l.drop i).dropWhile p:=by
 unfold run;rw[<-eY];generalize l.drop i=t;induction t with
 | nil=>rfl
 | cons a t ih =>
   rw[eX,dW];cases p a
   . rfl
   . simpa using ih
theorem Vi (p:UInt8->Bool)(l:av)(i:Nat):(l.drop i).take (run p l i)=(l.drop i).takeWhile p:=by
 unfold run;generalize l.drop i=t;induction t with
 | nil=>rfl
 | cons a t ih =>
   rw[eX];cases p a
   . rfl
   . simpa using ih
abbrev tL:=av×av
def quo:av->av->Option (av×av)
 | _,[]=>none
 | acc,c::t=>if c=34 then some (acc,t) else if c=92 then (match t with
  | []=>none
  | d::t'=>quo (acc++[d]) t') else quo (acc++[c]) t
theorem I8 (acc:av):quo acc []=none:=by unfold quo;rfl
theorem Qd (acc t:av):quo acc (34::t)=some (acc,t):=by unfold quo;rw[if_pos rfl]
theorem zx (acc:av):quo acc [92]=none:=by unfold quo;rw[if_neg (by decide),if_pos rfl]
theorem Kr (acc:av)(d:UInt8)(t:av):quo acc (92::d::t)=quo (acc++[d]) t:=by rw[quo,if_neg (by decide),if_pos rfl]
theorem Kt (acc:av)(c:UInt8)(t:av)(h1:c≠34)(h2:c≠92):quo acc (c::t)=quo (acc++[c]) t:=by rw[quo.eq_def];simp only[];rw[if_neg h1,if_neg h2]
theorem GR (n:Nat):∀(acc t v r:av),t.length<=n->quo acc t=some (v,r)->r.length<t.length∧v.length<=acc.length+t.length:=by
 induction n with
 | zero =>
   intro acc t v r h e;obtain rfl:t=[]:=dw (by omega);rw[I8] at e;cases e
 | succ n ih =>
   intro acc t v r h e;cases t with
   | nil=>rw[I8] at e;cases e
   | cons c t =>
     by_cases h1:c=34
     . subst h1;rw[Qd] at e;injection e with e;injection e with e1 e2;subst e1;subst e2;simp
     . by_cases h2:c=92
       . subst h2;cases t with
         | nil=>rw[zx] at e;cases e
         | cons d t =>
           rw[Kr] at e;have:=ih _ _ _ _ (by simp at h ⊢;omega) e;simp at this ⊢;omega
       . rw[Kt _ _ _ h1 h2] at e;have:=ih _ _ _ _ (by simp at h ⊢;omega) e;simp at this ⊢;omega
def val (r:av):Nat ⊕ (av×av) :=
 if r.head? = some 34 then (match quo [] r.tail with
  | none=>.inl 14
  | some x=>.inr x)
 else if r.takeWhile tok=[] then .inl 5 else .inr (r.takeWhile tok,r.dropWhile tok)
def par (r:av):Nat ⊕ (tL×av) :=
 if r.head? = some 59 then
  let r2:=r.tail.dropWhile blank
  if r2.takeWhile tok=[] then .inl 5
  else if (r2.dropWhile tok).head? = some 61 then (match val (r2.dropWhile tok).tail with
   | .inl c=>.inl c
   | .inr x=>.inr ((Ch.lower (r2.takeWhile tok),x.1),x.2))
  else .inl 5
 else .inl 5
def uG:Nat->av->List tL->Nat ⊕ List tL
 | 0,_,acc=>.inr acc
 | n + 1, r, acc =>
   if r.dropWhile blank=[] then .inr acc
   else match par (r.dropWhile blank) with
    | .inl c=>.inl c
    | .inr x=>if acc.any (fun q=>q.1==x.1.1) then .inl 9 else if acc.length=8 then .inl 8 else uG n x.2 (acc++[x.1])
def wrd (l:av):Nat ⊕ (av×av) :=
 let r:=l.dropWhile blank
 if r.takeWhile tok=[] then .inl 5
 else if (r.dropWhile tok).head? = some 47 then
  (if (r.dropWhile tok).tail.takeWhile tok = [] then .inl 5
   else .inr (Ch.lower (r.takeWhile tok)++[47]++Ch.lower ((r.dropWhile tok).tail.takeWhile tok),(r.dropWhile tok).tail.dropWhile tok))
 else .inr (Ch.lower (r.takeWhile tok),r.dropWhile tok)
def fin (n:Nat)(wd r:av)(acc:List tL):Nat ⊕ (av×List tL):=match uG n r acc with
 | .inl c=>.inl c
 | .inr ps=>.inr (wd,ps)
def ku (l:av):Nat ⊕ (av×List tL) :=
 if Ch.iy l=false then .inl 3
 else match wrd l with
  | .inl c=>.inl c
  | .inr x=>fin (l.length+1) x.1 x.2 []
/-! ### by places in a text -/
theorem vS (l:av)(i:Nat):(l.drop i).dropWhile blank=l.drop (blanks l i):=(Kq blank l i).symm
theorem Az (l:av)(i:Nat):(l.drop i).dropWhile tok=l.drop (i+word l i):=(Kq tok l i).symm
theorem xA (l:av)(i:Nat):(l.drop i).takeWhile tok=(l.drop i).take (word l i):=(Vi tok l i).symm
theorem Vj (l:av)(i:Nat):(l.drop i).takeWhile tok=[]<->word l i=0:=by
 unfold word run;constructor
 . intro h;rw[h];rfl
 . intro h;exact dw h
theorem AA (l:av)(i:Nat):((l.drop i).take (word l i)=[])=(word l i=0):=by
 rw[<-xA];exact propext (Vj l i)
theorem xB (l:av)(i:Nat)(h:i<=l.length):blanks l i<=l.length:=Vh blank l i h
theorem GU (l:av)(i:Nat):i<=blanks l i:=dJ _ _
theorem zy (l:av)(i:Nat)(h:i<=l.length):i+word l i<=l.length:=Vh tok l i h
theorem abx (l:av)(i:Nat):val (l.drop i) =
 if l[i]? = some 34 then (match quo [] (l.drop (i+1)) with
  | none=>.inl 14
  | some x=>.inr x)
 else if word l i=0 then .inl 5 else .inr ((l.drop i).take (word l i),l.drop (i+word l i)):=by
 unfold val;simp only[List.head?_drop,List.tail_drop,xA,Az,AA]
theorem aby (l:av)(i:Nat):par (l.drop i) =
 if l[i]? = some 59 then
  (if word l (blanks l (i + 1)) = 0 then .inl 5
   else if l[blanks l (i+1)+word l (blanks l (i+1))]? = some 61 then (match val (l.drop (blanks l (i+1)+word l (blanks l (i+1))+1)) with
    | .inl c=>.inl c
    | .inr x=>.inr ((Ch.lower ((l.drop (blanks l (i+1))).take (word l (blanks l (i+1)))),x.1),x.2))
   else .inl 5)
 else .inl 5:=by
 unfold par;simp only[List.head?_drop,List.tail_drop,vS,Az,xA,AA]
theorem YN (l:av)(n i:Nat)(acc:List tL)(hi:i<=l.length):uG (n+1) (l.drop i) acc =
 if blanks l i=l.length then .inr acc
 else match par (l.drop (blanks l i)) with
  | .inl c=>.inl c
  | .inr x=>if acc.any (fun q=>q.1==x.1.1) then .inl 9 else if acc.length=8 then .inl 8 else uG n x.2 (acc++[x.1]):=by
 have hb:=xB l i hi;rw[uG,vS];by_cases h:blanks l i=l.length
 . rw[if_pos h,if_pos (by rw[h,dY])]
 . rw[if_neg h,if_neg (fun e=>h (by have:=bE List.length e;rw[bV] at this;simp at this;omega))]
theorem abz (l:av):wrd l =
 if word l (blanks l 0)=0 then .inl 5
 else if l[blanks l 0+word l (blanks l 0)]? = some 47 then
  (if word l (blanks l 0 + word l (blanks l 0) + 1) = 0 then .inl 5
   else .inr (Ch.lower ((l.drop (blanks l 0)).take (word l (blanks l 0)))++[47]++Ch.lower ((l.drop (blanks l 0+word l (blanks l 0)+1)).take (word l (blanks l 0+word l (blanks l 0)+1))),l.drop (blanks l 0+word l (blanks l 0)+1+word l (blanks l 0+word l (blanks l 0)+1))))
 else .inr (Ch.lower ((l.drop (blanks l 0)).take (word l (blanks l 0))),l.drop (blanks l 0+word l (blanks l 0))):=by
 unfold wrd;have e:l.dropWhile blank=l.drop (blanks l 0):=by have:=vS l 0;rwa[List.drop_zero] at this
 simp only[e,Az,List.head?_drop,List.tail_drop,xA,AA]
theorem Vk (l:av)(hv:Ch.iy l=true)(i0 n0:Nat)(hi:blanks l 0=i0)(hn:word l i0=n0):ku l =
 if n0=0 then .inl 5
 else if l[i0+n0]? = some 47 then
  (if word l (i0 + n0 + 1) = 0 then .inl 5
   else fin (l.length+1) (Ch.lower ((l.drop i0).take n0)++[47]++Ch.lower ((l.drop (i0+n0+1)).take (word l (i0+n0+1)))) (l.drop (i0+n0+1+word l (i0+n0+1))) [])
 else fin (l.length+1) (Ch.lower ((l.drop i0).take n0)) (l.drop (i0+n0)) []:=by
 unfold ku;rw[if_neg (by rw[hv];simp),abz,hi,hn];by_cases h:n0=0
 . rw[if_pos h,if_pos h]
 . rw[if_neg h,if_neg h];by_cases h47:l[i0+n0]? = some 47
   . rw[if_pos h47,if_pos h47];by_cases h2:word l (i0+n0+1)=0
     . rw[if_pos h2,if_pos h2]
     . rw[if_neg h2,if_neg h2]
   . rw[if_neg h47,if_neg h47]
theorem fin_at (l:av)(n i:Nat)(wd:av)(acc:List tL)(hi:i<=l.length):fin (n+1) wd (l.drop i) acc =
 if blanks l i=l.length then .inr (wd,acc)
 else match par (l.drop (blanks l i)) with
  | .inl c=>.inl c
  | .inr x=>if acc.any (fun q=>q.1==x.1.1) then .inl 9 else if acc.length=8 then .inl 8 else fin n wd x.2 (acc++[x.1]):=by
 unfold fin;rw[YN l n i acc hi];by_cases h:blanks l i=l.length
 . rw[if_pos h,if_pos h]
 . rw[if_neg h,if_neg h];cases par (l.drop (blanks l i)) with
   | inl c=>rfl
   | inr x =>
     simp only[];by_cases h1:(acc.any fun q=>q.1==x.1.1)=true
     . rw[if_pos h1,if_pos h1]
     . rw[if_neg h1,if_neg h1];by_cases h2:acc.length=8
       . rw[if_pos h2,if_pos h2]
       . rw[if_neg h2,if_neg h2]
end Go.Proofs.YtjmndjmhjleabaaGreatDoor.Pm
namespace Go.Proofs.YtjmndjmhjleabaaGreatDoor.Rp
def tab:List (Int×av):=[(200,[79,75]),(201,[67,114,101,97,116,101,100]),(204,[78,111,32,67,111,110,116,101,110,116]),(400,[66,97,100,32,82,101,113,117,101,115,116]),(404,[78,111,116,32,70,111,117,110,100]),(405,[77,101,116,104,111,100,32,78,111,116,32,65,108,108,111,119,101,100]),(409,[67,111,110,102,108,105,99,116]),(412,[80,114,101,99,111,110,100,105,116,105,111,110,32,70,97,105,108,101,100]),(413,[67,111,110,116,101,110,116,32,84,111,111,32,76,97,114,103,101]),(415,[85,110,115,117,112,112,111,114,116,101,100,32,77,101,100,105,97,32,84,121,112,101]),(507,[73,110,115,117,102,102,105,99,105,101,110,116,32,83,116,111,114,97,103,101])]
def look:List (Int×av)->Int->av
 | [],_=>[]
 | p::t,n=>if p.1=n then p.2 else look t n
def word (n:Int):av:=look tab n
theorem CY:∀(l:List (Int×av)) (n:Int),(∀p∈l,p.1≠n)->look l n=[]
 | [],_,_=>rfl
 | p::t,n,hn=>by rw[look,if_neg (hn p (by simp)),CY t n (fun q hq=>hn q (by simp[hq]))]
theorem Vs {n:Int}(h:word n≠[]):200<=n∧n<=507:=by
 by_cases hn:∀p∈tab,p.1≠n
 . exact absurd (CY tab n hn) h
 . have:∃p,p∈tab∧p.1=n:=by
    apply eZ;intro hc;exact hn (fun p hp e=>hc ⟨p,hp,e⟩)
   obtain⟨p,hp,rfl⟩:=this;have hall:∀q∈tab,200<=q.1∧q.1<=507:=by decide
   exact hall p hp
theorem Kv (n:Int):(word n).length<=22:=by
 by_cases hn:∀p∈tab,p.1≠n
 . rw[word,CY tab n hn];decide
 . have:∃p,p∈tab∧p.1=n:=by
    apply eZ;intro hc;exact hn (fun p hp e=>hc ⟨p,hp,e⟩)
   obtain⟨p,hp,rfl⟩:=this;have hall:∀q∈tab,(look tab q.1).length<=22:=by decide
   exact hall p hp
def pI (p:ay×ay):av:=(Fd.text p.1.data.toList p.2.data.toList).1++[13,10]
def code:au->Nat
 | []=>0
 | p::t=>if (Fd.text p.1.data.toList p.2.data.toList).2≠0 then (Fd.text p.1.data.toList p.2.data.toList).2 else code t
theorem GX:∀(l:au),(∀p∈l,(Fd.text p.1.data.toList p.2.data.toList).2=0)->code l=0
 | [],_=>rfl
 | p::t,h=>by rw[code,if_neg (by simpa using h p (by simp)),GX t (fun q hq=>h q (by simp[hq]))]
theorem Kw:∀(l:au) (i:Nat) (hi:i<l.length),(∀p∈l.take i,(Fd.text p.1.data.toList p.2.data.toList).2=0)->(Fd.text l[i].1.data.toList l[i].2.data.toList).2≠0->code l=(Fd.text l[i].1.data.toList l[i].2.data.toList).2
 | p::t,0,_,_,hc=>by rw[code,if_pos (by simpa using hc)];rfl
 | p :: t, i + 1, hi, hz, hc => by
   rw[code,if_neg (by simpa using hz p (by simp)),Kw t i (by simpa using hi) (fun q hq=>hz q (by simp[hq])) (by simpa using hc)];rfl
def h11:av:=[72,84,84,80,47,49,46,49,32]
def cl:av:=[67,111,110,116,101,110,116,45,76,101,110,103,116,104,58,32]
def first (st:Int):av:=h11++Ch.jH 8 st.toNat++[32]++word st++[13,10]
def text (st:Int)(l:au)(nv:Nat)(body:av):av×Nat :=
 if word st=[] then ([],11) else if 16<=l.length then ([],8) else if nv≠0 then ([],12) else if code l≠0 then ([],code l) else (first st++l.flatMap pI++cl++Ch.jH 8 body.length++[13,10,13,10]++body,0)
end Go.Proofs.YtjmndjmhjleabaaGreatDoor.Rp
namespace Go.Proofs.YtjmndjmhjleabaaGreatDoor.Ck
theorem oZ {l:av}(h:(Ln.of l).size=0):(Ln.of l).code=0∧(Ln.of l).ended=false:=by
 rw[Ln.YI l h];exact⟨rfl,rfl⟩
theorem zA {l:av}(h:0<(Ln.of l).size)(hc:(Ln.of l).code=0):(Ln.of l).ended=true:=by
 rcases Ln.CU l with hk | hk | hk
 . omega
 . exact hk.2
 . exact absurd hc hk.1
theorem AL {s:St}(h:nM s){l:av}(ho:(Ln.of l).size=0):Same ⟨[],(Ln.of l).size,false,(Ln.of l).code⟩ (run s l):=by
 obtain⟨h1,h2,h3⟩:=U8 h l ho;have:=(oZ ho).1;exact⟨h1.symm,h2.symm,by rw[h3];exact this,fun e=>by rcases e with e | e <;> simp_all⟩
theorem GY:∀(f:Nat) (l:av) (s:St),l.length<f->nM s->s.ph=3->Same (trail f l s.count) (run s l)
 | 0,l,s,hf,_,_=>by omega
 | f + 1, l, s, hf, h, h3 => by
   rw[trail];by_cases ho:(Ln.of l).size=0
   . have:=oZ ho;rw[if_pos (Or.inr this.2)];exact AL h ho
   . have hp:0<(Ln.of l).size:=by omega
     have hle:=Ln.of_le l;rw[Dm h l hp];by_cases hc:(Ln.of l).code=0
     . have he:=zA hp hc;have hn:¬((Ln.of l).code≠0∨(Ln.of l).ended=false):=by rw[he,hc];simp
       have hcn:¬(Ln.of l).code≠0:=by omega
       rw[if_neg hn,if_neg hcn];have hL:line s (Ln.of l).text=if (Ln.of l).text=[] then { s with ph:=4 } else if s.count=16 then { s with code:=8 } else if (Fd.of (Ln.of l).text).code≠0 then { s with code:=(Fd.of (Ln.of l).text).code } else { s with count:=s.count+1 }:=by
        unfold line;rw[if_neg (by omega),if_neg (by omega)]
       by_cases ht:(Ln.of l).text=[]
       . rw[if_pos ht,hL,if_pos ht];have e1:¬({ s with ph:=4 }:St).code≠0:=by have:=h.code;simpa using this
         rw[if_neg e1,if_pos rfl];exact Same.refl _
       . rw[if_neg ht,hL,if_neg ht];by_cases h16:s.count=16
         . rw[if_pos h16,if_pos h16,if_pos (show({ s with code:=8 }:St).code≠0 by show 8≠0;omega)];exact Same.refl _
         . rw[if_neg h16,if_neg h16];by_cases hfc:(Fd.of (Ln.of l).text).code=0
           . have hfn:¬(Fd.of (Ln.of l).text).code≠0:=by omega
             rw[if_neg hfn,if_neg hfn];have e1:¬({ s with count:=s.count+1 }:St).code≠0:=by have:=h.code;simpa using this
             rw[if_neg e1,if_neg (show ¬({ s with count:=s.count+1 }:St).ph=4 by show ¬s.ph=4;omega)];have ih:=GY f (l.drop (Ln.of l).size) { s with count:=s.count+1 } (by rw[bV];omega) ⟨h.code,h.ph,h.ln⟩ h3;have:=ih.shift [] (Ln.of l).size;simpa[shift] using this
           . rw[if_pos hfc,if_pos hfc,if_pos (show({ s with code:=(Fd.of (Ln.of l).text).code }:St).code≠0 from hfc)];exact Same.refl _
     . rw[if_pos (Or.inl hc),if_pos hc];exact Same.refl _
theorem vU:∀(f:Nat) (l:av) (s:St),l.length<f->nM s->s.ph=0->s.count=0->Same (go f l s.total) (run s l)
 | 0,l,s,hf,_,_,_=>by omega
 | f + 1, l, s, hf, h, h0, hct => by
   rw[go];by_cases ho:(Ln.of l).size=0
   . have:=oZ ho;rw[if_pos (Or.inr this.2)];exact AL h ho
   . have hp:0<(Ln.of l).size:=by omega
     have hle:=Ln.of_le l;rw[Dm h l hp];by_cases hc:(Ln.of l).code=0
     . have he:=zA hp hc;have hn:¬((Ln.of l).code≠0∨(Ln.of l).ended=false):=by rw[he,hc];simp
       have hcn:¬(Ln.of l).code≠0:=by omega
       rw[if_neg hn,if_neg hcn];have hL:line s (Ln.of l).text=if (size (Ln.of l).text).2=false then { s with code:=7 } else if 4000<s.total+(size (Ln.of l).text).1.toNat then { s with code:=4 } else if (size (Ln.of l).text).1.toNat=0 then { s with ph:=3 } else { s with ph:=1,left:=(size (Ln.of l).text).1.toNat,total:=s.total+(size (Ln.of l).text).1.toNat }:=by
        unfold line;rw[if_pos h0]
       rw[hL];by_cases h7:(size (Ln.of l).text).2=false
       . rw[if_pos h7,if_pos h7,if_pos (show({ s with code:=7 }:St).code≠0 by show 7≠0;omega)];exact Same.refl _
       . rw[if_neg h7,if_neg h7];by_cases h4:4000<s.total+(size (Ln.of l).text).1.toNat
         . rw[if_pos h4,if_pos h4,if_pos (show({ s with code:=4 }:St).code≠0 by show 4≠0;omega)];exact Same.refl _
         . rw[if_neg h4,if_neg h4];by_cases hz:(size (Ln.of l).text).1.toNat=0
           . rw[if_pos hz,if_pos hz];have e1:¬({ s with ph:=3 }:St).code≠0:=by have:=h.code;simpa using this
             rw[if_neg e1,if_neg (show ¬({ s with ph:=3 }:St).ph=4 by show ¬3=4;omega)];have ih:=GY (f+1) (l.drop (Ln.of l).size) { s with ph:=3 } (by rw[bV];omega) ⟨h.code,Or.inr (Or.inr rfl),h.ln⟩ rfl;have:=ih.shift [] (Ln.of l).size;have hc0:({ s with ph:=3 }:St).count=0:=hct;rw[hc0] at this;simpa[shift,hct] using this
           . rw[if_neg hz,if_neg hz];have e1:¬({ s with ph:=1,left:=(size (Ln.of l).text).1.toNat,total:=s.total+(size (Ln.of l).text).1.toNat }:St).code≠0:=by have:=h.code;simpa using this
             rw[if_neg e1,if_neg (show ¬({ s with ph:=1,left:=(size (Ln.of l).text).1.toNat,total:=s.total+(size (Ln.of l).text).1.toNat }:St).ph=4 by show ¬1=4;omega)];generalize (size (Ln.of l).text).1.toNat=k at *;obtain⟨j,rfl⟩:∃j,k=j+1:=⟨k-1,by omega⟩;have hdl:(l.drop (Ln.of l).size).length=l.length-(Ln.of l).size:=bV;generalize hD:l.drop (Ln.of l).size=d at *;generalize (Ln.of l).size=sz at *;have hb:=GK { s with total:=s.total+(j+1) } h.code j d;have e2:({ ({ s with total:=s.total+(j+1) }:St) with ph:=1,left:=j+1 }:St)={ s with ph:=1,left:=j+1,total:=s.total+(j+1) }:=rfl;rw[e2] at hb;rw[hb];simp only[];by_cases hdk:d.length<j+1
             . rw[if_pos hdk,if_pos hdk];exact⟨by simp[shift],rfl,rfl,fun e=>by rcases e with e | e <;> simp at e⟩
             . rw[if_neg hdk,if_neg hdk];have hA:nM { s with ph:=2,left:=0,total:=s.total+(j+1) }:=⟨h.code,Or.inr (Or.inl rfl),h.ln⟩;have hel:(d.drop (j+1)).length=d.length-(j+1):=bV;generalize d.drop (j+1)=e at *;rw[nS,dz];show Same _ (shift (d.take (j+1)) (sz+(j+1)) (run { s with ph:=2,left:=0,total:=s.total+(j+1) } e));by_cases ho2:(Ln.of e).size=0
               . have ho3:=oZ ho2;rw[if_pos (Or.inr ho3.2)];have:=(AL hA ho2).shift (d.take (j+1)) (sz+(j+1));simpa[shift,bL] using this
               . have hp2:0<(Ln.of e).size:=by omega
                 have hle2:=Ln.of_le e;rw[Dm hA e hp2];by_cases hc2:(Ln.of e).code=0
                 . have he2:=zA hp2 hc2;have hn2:¬((Ln.of e).code≠0∨(Ln.of e).ended=false):=by rw[he2,hc2];simp
                   have ahD:¬(Ln.of e).code≠0:=by omega
                   rw[if_neg hn2,if_neg ahD];have hL2:line { s with ph:=2,left:=0,total:=s.total+(j+1) } (Ln.of e).text=if (Ln.of e).text≠[] then { s with ph:=2,left:=0,total:=s.total+(j+1),code:=5 } else { s with ph:=0,left:=0,total:=s.total+(j+1) }:=by
                    unfold line;rw[if_neg (show ¬(2:Nat)=0 by omega),if_pos rfl]
                   rw[hL2];by_cases ht:(Ln.of e).text=[]
                   . have htn:¬(Ln.of e).text≠[]:=fun x=>x ht;rw[if_neg htn,if_neg htn];have e3:¬({ s with ph:=0,left:=0,total:=s.total+(j+1) }:St).code≠0:=by have:=h.code;simpa using this
                     rw[if_neg e3,if_neg (show ¬({ s with ph:=0,left:=0,total:=s.total+(j+1) }:St).ph=4 by show ¬0=4;omega)];have ih:=vU f (e.drop (Ln.of e).size) { s with ph:=0,left:=0,total:=s.total+(j+1) } (by rw[bV];omega) ⟨h.code,Or.inl rfl,h.ln⟩ rfl hct;have:=(ih.shift [] (Ln.of e).size).shift (d.take (j+1)) (sz+(j+1));simpa[shift,bL] using this
                   . rw[if_pos ht,if_pos ht,if_pos (show({ s with ph:=2,left:=0,total:=s.total+(j+1),code:=5 }:St).code≠0 by show 5≠0;omega)];simpa[shift,bL] using Same.refl (⟨d.take (j+1),sz+(j+1)+(Ln.of e).size,false,5⟩:Told)
                 . rw[if_pos (Or.inl hc2),if_pos hc2];simpa[shift,bL] using Same.refl (⟨d.take (j+1),sz+(j+1)+(Ln.of e).size,false,(Ln.of e).code⟩:Told)
     . rw[if_pos (Or.inl hc),if_pos hc];exact Same.refl _
theorem of_run (l:av):Same (of l) (run start l):=vU (l.length+1) l start (by omega) ⟨rfl,Or.inl rfl,rfl⟩ rfl rfl
def over (s:St)(c:UInt8):Bool:=decide (s.code=0∧s.ph≠4∧(next s c).code=0∧(next s c).ph=4)
theorem Rl {s:St}(h:s.code≠0)(c:UInt8):next s c=s:=by unfold next;rw[if_pos h]
theorem Ky:∀(l:av) (s:St),((run s l).code≠0∨(run s l).over=true)->1<=(run s l).used∧(run s l).used<=l.length
 | [],s,h=>by rcases h with h | h <;> simp[run] at h
 | c :: t, s, h => by
   rw[run] at h ⊢;split at h
   . rename_i h1;rw[if_pos h1];exact⟨aM _,by simp⟩
   . rename_i h1;rw[if_neg h1];split at h
     . rename_i h2;rw[if_pos h2];exact⟨aM _,by simp⟩
     . rename_i h2;rw[if_neg h2];have:=Ky t (next s c) h;simp only[aX];omega
def pc (s:St):Nat:=if s.code≠0 then s.code else if s.ph=4 then 18 else 0
def nx (s:St):Nat:=if s.ph=0 then 0 else if s.ph=3 then 2 else 1
def lf (s:St):Nat:=if s.ph=1 then s.left else 0
structure Good (s:St):Prop where
 ph:s.ph<=4
 ln:Ln.Good s.ln
 lc:s.ln.code=0
 left:s.ph=1->0<s.left
 I9:s.left<=4000
 total:s.total<=4000
 count:s.count<=16
theorem Good.start:Good start:=⟨aA _,Ln.Good.start,rfl,fun h=>(by cases h),aA _,aA _,aA _⟩
theorem lX {s:St}:pc s=0<->s.code=0∧s.ph≠4:=by
 unfold pc;by_cases h:s.code=0
 . rw[if_neg (fun e=>e h)];by_cases h4:s.ph=4
   . rw[if_pos h4];simp[h4]
   . rw[if_neg h4];simp[h,h4]
 . rw[if_pos h];simp[h]
theorem Good.line {s:St}(h:Good s)(t:av):Good (line s t):=by
 obtain⟨h1,h2,h3,h4,h5,h6,h7⟩:=h;unfold Ck.line;split
 . split
   . exact⟨h1,h2,h3,h4,h5,h6,h7⟩
   . split
     . exact⟨h1,h2,h3,h4,h5,h6,h7⟩
     . split
       . exact⟨(by show 3<=4;omega),h2,h3,fun e=>(by have:(3:Nat)=1:=e;omega),h5,h6,h7⟩
       . rename_i _ a b;exact⟨(by show 1<=4;omega),h2,h3,fun _=>(by show 0<(size t).1.toNat;omega),(by show(size t).1.toNat<=4000;omega),(by show s.total+(size t).1.toNat<=4000;omega),h7⟩
 . split
   . split
     . exact⟨h1,h2,h3,h4,h5,h6,h7⟩
     . exact⟨(by show 0<=4;omega),h2,h3,fun e=>(by have:(0:Nat)=1:=e;omega),h5,h6,h7⟩
   . split
     . exact⟨(by show 4<=4;omega),h2,h3,fun e=>(by have:(4:Nat)=1:=e;omega),h5,h6,h7⟩
     . split
       . exact⟨h1,h2,h3,h4,h5,h6,h7⟩
       . split
         . exact⟨h1,h2,h3,h4,h5,h6,h7⟩
         . exact⟨h1,h2,h3,h4,h5,h6,(by show s.count+1<=16;omega)⟩
theorem Good.next {s:St}(h:Good s)(c:UInt8):Good (next s c):=by
 have hh:=h;obtain⟨h1,h2,h3,h4,h5,h6,h7⟩:=h;unfold Ck.next;split
 . exact hh
 . split
   . exact⟨h1,h2,h3,h4,h5,h6,h7⟩
   . split
     . refine⟨?_,h2,h3,fun e=>?_,(by show s.left-1<=4000;omega),h6,h7⟩
       . show(if s.left<=1 then 2 else 1)<=4;split <;> omega
       . have e':(if s.left<=1 then 2 else 1)=1:=e;show 0<s.left-1;split at e' <;> omega
     . split
       . exact⟨h1,h2,h3,h4,h5,h6,h7⟩
       . split
         . exact Good.line (s:={ s with ln:=Ln.start }) ⟨h1,Ln.Good.start,rfl,h4,h5,h6,h7⟩ _
         . exact⟨h1,Ln.tT h2,(by rename_i a _;show(Ln.next s.ln c).code=0;omega),h4,h5,h6,h7⟩
theorem Rm {t:av}(h:∀b∈t,Ch.ws.contains b=false):Lib.trimS t Ch.ws=t:=by
 have key:∀u:av,(∀b∈u,Ch.ws.contains b=false)->u.dropWhile (Ch.ws.contains ·)=u:=by
  intro u hu;cases u with
  | nil=>rfl
  | cons a v=>rw[dW,hu a (cK ..)];rfl
 unfold Lib.trimS Lib.trimLeftS Lib.trimRightS;rw[key t.reverse (fun b hb=>h b (List.mem_reverse.1 hb)),List.reverse_reverse,key t h]
theorem Qe (s:St)(c:UInt8):(out s c).length<=1:=by unfold out;split <;> simp
theorem Vt {s:St}{c:UInt8}(h:(next s c).code≠0):out s c=[]:=by
 unfold out;rw[if_neg];rintro ⟨h0,h1⟩;apply h;unfold next;rw[if_neg (by omega),if_neg (by omega),if_pos h1];exact h0
theorem YR (b:av)(h:(of b).code≠0∨(of b).over=true):1<=(of b).used∧(of b).used<=b.length:=by
 have hs:=of_run b;rw[hs.used h];refine Ky b start ?_;rw[<-hs.code,<-hs.over];exact h
end Go.Proofs.YtjmndjmhjleabaaGreatDoor.Ck
namespace Go.Proofs.YtjmndjmhjleabaaGreatDoor
open Go.RowKit
theorem vX (l:av):(Lib.trimS l Ch.ws).length<=l.length:=by
 unfold Lib.trimS Lib.trimLeftS Lib.trimRightS;have h1:=(bT (l:=(l.reverse.dropWhile (Ch.ws.contains ·)).reverse) (Ch.ws.contains ·)).length_le;have h2:=(bT (l:=l.reverse) (Ch.ws.contains ·)).length_le;simp only[List.length_reverse] at h1 h2;omega
end Go.Proofs.YtjmndjmhjleabaaGreatDoor
namespace Go.Proofs.YtjmndjmhjleabaaGreatDoor.Fd
theorem VD (l:av)(c:UInt8):(Lib.indexByte l c=-1∧at_ c l=l.length)∨(Lib.indexByte l c=(at_ c l:Int)∧at_ c l<l.length):=by
 by_cases h:Lib.indexByte l c=-1
 . refine Or.inl ⟨h,Qb fun j hj e=>?_⟩;exact Lib.indexByte_none h j (by rw[dD hj,e])
 . have hge:=Lib.indexByte_ge l c;obtain⟨o,ho⟩:∃o:Nat,Lib.indexByte l c=o:=⟨(Lib.indexByte l c).toNat,by omega⟩;obtain⟨h1,h2⟩:=Lib.indexByte_some ho;obtain⟨hlt,he⟩:=aQ.1 h1;have:at_ c l=o:=aaD hlt he fun j hj e=>h2 j hj (by rw[dD (by omega),e]);refine Or.inr ⟨by rw[ho,this],by omega⟩
theorem tq (p q:UInt8->Bool)(h:∀b,q b=true->p b=true):∀l:av,(l.dropWhile q).all p=l.all p
 | []=>rfl
 | a :: t => by
   rw[dW];cases hq:q a
   . rfl
   . rw[if_pos rfl,tq p q h t,dP,h a hq];rfl
theorem Qi (b:UInt8)(h:Ch.ws.contains b=true):Ch.visible b.toNat=true:=by
 have hb:=b.toNat_lt;have:=(show ∀n:Fin 256,Ch.ws.contains n.val.toUInt8=true->Ch.visible ((n.val.toUInt8).toNat:Int)=true by decide +kernel) ⟨b.toNat,hb⟩;have e:b.toNat.toUInt8=b:=by simp
 simp only[e] at this;exact this h
theorem Rw (l:av):Ch.iy (Lib.trimS l Ch.ws)=Ch.iy l:=by
 unfold Ch.iy Lib.trimS Lib.trimLeftS Lib.trimRightS;rw[tq _ _ Qi,List.all_reverse,tq _ _ Qi,List.all_reverse]
theorem YV (l:av):of l=if at_ 58 l=l.length then bad 5
 else if Ch.isToken (l.take (at_ 58 l))=false then bad 6
 else if 40<at_ 58 l then bad 4
 else if Ch.iy (Lib.trimS (l.drop (at_ 58 l+1)) Ch.ws)=false then bad 3
 else ⟨l.take (at_ 58 l),Lib.trimS (l.drop (at_ 58 l+1)) Ch.ws,0⟩:=by
 unfold of;rw[Rw]
theorem AP (l:av):(of l).name.length<=l.length∧(of l).value.length<=l.length:=by
 unfold of;split
 . simp[bad]
 . split
   . simp[bad]
   . split
     . simp[bad]
     . split
       . simp[bad]
       . refine⟨List.length_take_le' ..,?_⟩;have:=vX (l.drop (at_ 58 l+1));rw[bV] at this;show(Lib.trimS (l.drop (at_ 58 l+1)) Ch.ws).length<=l.length;omega
end Go.Proofs.YtjmndjmhjleabaaGreatDoor.Fd
namespace Go.Proofs.YtjmndjmhjleabaaGreatDoor.Pm
theorem KP (p:UInt8->Bool)(l:av):(l.takeWhile p).length<=l.length:=(List.takeWhile_prefix (l:=l) p).length_le
theorem vY (p:UInt8->Bool)(l:av):(l.dropWhile p).length<=l.length:=(bT (l:=l) p).length_le
theorem Qm (p:UInt8->Bool)(l:av):(l.takeWhile p).length+(l.dropWhile p).length=l.length:=by
 rw[<-aW,List.takeWhile_append_dropWhile]
theorem YZ {r v r':av}(h:val r=.inr (v,r')):v.length<=r.length∧r'.length<=r.length:=by
 unfold val at h;split at h
 . split at h
   . cases h
   . rename_i x hq;injection h with h;subst h;have:=GR _ _ _ _ _ (aM _) hq;rw[bS] at this;simp only[cu] at this;omega
 . split at h
   . cases h
   . injection h with h;injection h with h1 h2;subst h1;subst h2;exact⟨KP _ _,vY _ _⟩
theorem Y0 {r r':av}{p:tL}(h:par r=.inr (p,r')):p.1.length<=r.length∧p.2.length<=r.length∧r'.length<=r.length:=by
 unfold par at h;split at h
 . simp only[] at h;split at h
   . cases h
   . split at h
     . split at h
       . cases h
       . rename_i x hv;injection h with h;injection h with e1 e2;subst e1;subst e2;have h1:=YZ (v:=x.1) (r':=x.2) hv;rw[bS] at h1;have h2:=vY tok (r.tail.dropWhile blank);have h3:=vY blank r.tail;have h4:=KP tok (r.tail.dropWhile blank);rw[bS] at h3;dsimp only;rw[Ch.mZ];omega
     . cases h
 . cases h
theorem KQ (N:Nat):∀(n:Nat) (r:av) (acc ps:List tL),r.length<=N->(∀p∈acc,p.1.length<=N∧p.2.length<=N)->uG n r acc=.inr ps->∀p∈ps,p.1.length<=N∧p.2.length<=N
 | 0, r, acc, ps, _, ha, h => by
   rw[uG] at h;injection h with h;subst h;exact ha
 | n + 1, r, acc, ps, hr, ha, h => by
   rw[uG] at h;split at h
   . injection h with h;subst h;exact ha
   . split at h
     . cases h
     . rename_i x hx;split at h
       . cases h
       . split at h
         . cases h
         . have hl:=Y0 (p:=x.1) (r':=x.2) hx;have hd:=vY blank r;refine KQ N n x.2 _ ps (by omega) (fun p hp=>?_) h;rw[bB,bC] at hp;rcases hp with hp | rfl
           . exact ha p hp
           . omega
theorem Y1 {l wd r:av}(h:wrd l=.inr (wd,r)):wd.length<=l.length∧r.length<=l.length:=by
 unfold wrd at h;simp only[] at h;have hd:=vY blank l;have hb:=Qm tok (l.dropWhile blank);split at h
 . cases h
 . split at h
   . rename_i h47;split at h
     . cases h
     . injection h with h;injection h with e1 e2;subst e1;subst e2;have hb2:=Qm tok ((l.dropWhile blank).dropWhile tok).tail;rw[bS] at hb2;have hp:0<((l.dropWhile blank).dropWhile tok).length:=by
        cases hx:(l.dropWhile blank).dropWhile tok with
        | nil=>rw[hx] at h47;cases h47
        | cons _ _=>simp
       simp only[aW,Ch.mZ,List.length_singleton];omega
   . injection h with h;injection h with e1 e2;subst e1;subst e2;rw[Ch.mZ];omega
theorem AQ {l wd:av}{ps:List tL}(h:ku l=.inr (wd,ps)):wd.length<=l.length∧∀p∈ps,p.1.length<=l.length∧p.2.length<=l.length:=by
 unfold ku at h;split at h
 . cases h
 . split at h
   . cases h
   . rename_i x hx;unfold fin at h;split at h
     . cases h
     . rename_i ps' hp;injection h with h;injection h with e1 e2;subst e1;subst e2;obtain⟨g1,g2⟩:=Y1 (wd:=x.1) (r:=x.2) hx;exact⟨g1,KQ l.length _ _ _ _ g2 (fun p hp=>by cases hp) hp⟩
end Go.Proofs.YtjmndjmhjleabaaGreatDoor.Pm
namespace Go.Proofs.YtjmndjmhjleabaaGreatDoor
theorem Ln.D6 (l:av):∀(t:av) (i:Nat),(Ln.go l i t).text.length<=l.length
 | [],i=>aA _
 | c :: t, i => by
   unfold Ln.go;split
   . split
     . exact aA _
     . split
       . show(l.take i).length<=l.length;rw[bY];omega
       . exact aA _
   . split
     . exact aA _
     . split
       . exact aA _
       . split
         . exact aA _
         . exact Ln.D6 l t (i+1)
theorem Ln.uP (l:av):(Ln.of l).text.length<=l.length:=Ln.D6 l l 0
namespace Ck
section
variable {f:Nat} {l:av} {n:Nat}
theorem NI (h:(Ln.of l).code≠0∨(Ln.of l).ended=false):go (f+1) l n=⟨[],(Ln.of l).size,false,(Ln.of l).code⟩:=by rw[go,if_pos h]
section
variable (h:¬((Ln.of l).code≠0∨(Ln.of l).ended=false))
include h
theorem Y6 (h1:(size (Ln.of l).text).2=false):go (f+1) l n=⟨[],(Ln.of l).size,false,7⟩:=by rw[go,if_neg h,if_pos h1]
section
variable (h1:(size (Ln.of l).text).2=true)
include h1
theorem Y7 (h2:4000<n+(size (Ln.of l).text).1.toNat):go (f+1) l n=⟨[],(Ln.of l).size,false,4⟩:=by rw[go,if_neg h,if_neg (by rw[h1];simp),if_pos h2]
section
variable (h2:¬4000<n+(size (Ln.of l).text).1.toNat)
include h2
theorem Y8 (h3:(size (Ln.of l).text).1.toNat=0):go (f+1) l n=shift [] (Ln.of l).size (trail (f+1) (l.drop (Ln.of l).size) 0):=by
 rw[go,if_neg h,if_neg (by rw[h1];simp),if_neg h2,if_pos h3];rfl
section
variable (h3:¬(size (Ln.of l).text).1.toNat=0)
include h3
theorem VZ (h4:(l.drop (Ln.of l).size).length<(size (Ln.of l).text).1.toNat):go (f+1) l n=⟨l.drop (Ln.of l).size,(Ln.of l).size+(l.drop (Ln.of l).size).length,false,0⟩:=by
 rw[go,if_neg h,if_neg (by rw[h1];simp),if_neg h2,if_neg h3];simp only[];rw[if_pos h4]
section
variable (h4:¬(l.drop (Ln.of l).size).length<(size (Ln.of l).text).1.toNat)
include h4
theorem Y9 (h5:(Ln.of ((l.drop (Ln.of l).size).drop (size (Ln.of l).text).1.toNat)).code≠0∨(Ln.of ((l.drop (Ln.of l).size).drop (size (Ln.of l).text).1.toNat)).ended=false):
 go (f+1) l n=⟨(l.drop (Ln.of l).size).take (size (Ln.of l).text).1.toNat,(Ln.of l).size+(size (Ln.of l).text).1.toNat+(Ln.of ((l.drop (Ln.of l).size).drop (size (Ln.of l).text).1.toNat)).size,false,(Ln.of ((l.drop (Ln.of l).size).drop (size (Ln.of l).text).1.toNat)).code⟩:=by
 rw[go,if_neg h,if_neg (by rw[h1];simp),if_neg h2,if_neg h3];simp only[];rw[if_neg h4,if_pos h5]
section
variable (h5:¬((Ln.of ((l.drop (Ln.of l).size).drop (size (Ln.of l).text).1.toNat)).code≠0∨(Ln.of ((l.drop (Ln.of l).size).drop (size (Ln.of l).text).1.toNat)).ended=false))
include h5
theorem Za (h6:(Ln.of ((l.drop (Ln.of l).size).drop (size (Ln.of l).text).1.toNat)).text≠[]):
 go (f+1) l n=⟨(l.drop (Ln.of l).size).take (size (Ln.of l).text).1.toNat,(Ln.of l).size+(size (Ln.of l).text).1.toNat+(Ln.of ((l.drop (Ln.of l).size).drop (size (Ln.of l).text).1.toNat)).size,false,5⟩:=by
 rw[go,if_neg h,if_neg (by rw[h1];simp),if_neg h2,if_neg h3];simp only[];rw[if_neg h4,if_neg h5,if_pos h6]
theorem Zb (h6:(Ln.of ((l.drop (Ln.of l).size).drop (size (Ln.of l).text).1.toNat)).text=[]):
 go (f+1) l n=shift ((l.drop (Ln.of l).size).take (size (Ln.of l).text).1.toNat) ((Ln.of l).size+(size (Ln.of l).text).1.toNat+(Ln.of ((l.drop (Ln.of l).size).drop (size (Ln.of l).text).1.toNat)).size) (go f (((l.drop (Ln.of l).size).drop (size (Ln.of l).text).1.toNat).drop (Ln.of ((l.drop (Ln.of l).size).drop (size (Ln.of l).text).1.toNat)).size) (n+(size (Ln.of l).text).1.toNat)):=by
 rw[go,if_neg h,if_neg (by rw[h1];simp),if_neg h2,if_neg h3];simp only[];rw[if_neg h4,if_neg h5,if_neg (fun e=>e h6)];rfl
end
end
end
end
end
end
theorem RQ (h:(Ln.of l).code≠0∨(Ln.of l).ended=false):trail (f+1) l n=⟨[],(Ln.of l).size,false,(Ln.of l).code⟩:=by rw[trail,if_pos h]
section
variable (h:¬((Ln.of l).code≠0∨(Ln.of l).ended=false))
include h
theorem RS (h1:(Ln.of l).text=[]):trail (f+1) l n=⟨[],(Ln.of l).size,true,0⟩:=by rw[trail,if_neg h,if_pos h1]
section
variable (h1:¬(Ln.of l).text=[])
include h1
theorem NJ (h2:n=16):trail (f+1) l n=⟨[],(Ln.of l).size,false,8⟩:=by rw[trail,if_neg h,if_neg h1,if_pos h2]
section
variable (h2:¬n=16)
include h2
theorem NK (h3:(Fd.of (Ln.of l).text).code≠0):trail (f+1) l n=⟨[],(Ln.of l).size,false,(Fd.of (Ln.of l).text).code⟩:=by rw[trail,if_neg h,if_neg h1,if_neg h2,if_pos h3]
theorem NM (h3:(Fd.of (Ln.of l).text).code=0):trail (f+1) l n=shift [] (Ln.of l).size (trail f (l.drop (Ln.of l).size) (n+1)):=by
 rw[trail,if_neg h,if_neg h1,if_neg h2,if_neg (fun e=>e h3)];rfl
end
end
end
end
end Ck
theorem D7 (t:av):0<=(Ck.size t).1∧(Ck.size t).1<68719476736:=by
 unfold Ck.size;generalize Lib.trimS (t.take (Fd.at_ 59 t)) Ch.ws=l;unfold Ch.number;split
 . exact⟨aB _,by decide⟩
 . split
   . rename_i h1 h2;have hl:¬(6:Int)<l.length:=fun e=>h1 (Or.inr e);exact Ch.mH 16 (by omega) (by omega) l h2 (by omega)
   . exact⟨aB _,by decide⟩
end Go.Proofs.YtjmndjmhjleabaaGreatDoor