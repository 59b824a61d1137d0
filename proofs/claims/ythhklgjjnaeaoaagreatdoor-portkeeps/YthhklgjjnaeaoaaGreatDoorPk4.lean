/- Small texts, one behind the other: PlainA, PlainL, PlainN, PlainLT, PlainB, PlainF, PlainCK, PlainUA, PlainUB, PlainP, PlainM, PlainRp, PlainCL, PlainCG, PlainCB, PlainCW, PlainT, PlainG, PlainMT, PlainMB, PlainMD, PlainCO. -/
import Derived.Test.YthhklgjjnaeaoaaGreatDoorAl
import Derived.Lib.SlTrimSet
import Derived.Lib.IndexLaws
import Derived.Below
open Option renaming none->U,some->M
open Bool renaming false->F
namespace Go.Proofs.YthhklgjjnaeaoaaGreatDoor.Ch
def digit (c:Int):Bool:=decide (48<=c)&&decide (c<=57)
def capital (c:Int):Bool:=decide (65<=c)&&decide (c<=90)
def letter (c:Int):Bool:=(decide (97<=c)&&decide (c<=122))||capital c
def visible (c:Int):Bool:=c==9||(decide (32<=c)&&c != 127)
def marks:av:=[33,35,36,37,38,39,42,43,45,46,94,95,96,124,126]
def token (c:Int):Bool:=digit c||letter c||decide (0<=Lib.indexByte marks c.toNat.toUInt8)
def hex (c:Int):Int:=if digit c then c-48 else if decide (97<=c)&&decide (c<=102) then c-87 else if decide (65<=c)&&decide (c<=70) then c-55 else -1
theorem YC {p:Int->Bool}(h:(List.range 256).all (fun n=>p (n:Int))=true)(c:Int)(a:0<=c)(b:c<=255):p c=true:=by
 obtain⟨n,rfl⟩:=Int.eq_ofNat_of_zero_le a;exact dI.1 h n (List.mem_range.2 (by omega))
def isToken (l:av):Bool:=!l.isEmpty&&l.all fun b=>token b.toNat
def CB (l:av):Bool:=l.all fun b=>token b.toNat
def gV (l:av):Bool:=l.all fun b=>visible b.toNat
theorem QX (c:Int)(a:0<=c)(b:c<=255):-1<=hex c∧hex c<=15:=by
 have:=YC (p:=fun c=>decide (-1<=hex c∧hex c<=15)) (by decide +kernel) c a b;simpa using this
theorem nD (s:ay)(k:Nat)(h:k<s.size):s.data.toList.take (k+1)=s.data.toList.take k++[s[k]]:=by
 rw[bM (by simpa using h)];rfl
theorem yD (s:ay)(k:Nat)(h:s.size<=k):s.data.toList.take k=s.data.toList :=
 dJ (by simpa using h)
theorem uU (p:UInt8->Bool)(s:ay)(k:Nat)(h:k<s.size)(b:p s[k]=F):s.data.toList.all p=F:=by
 rw[Bool.eq_false_iff,Ne,dI];intro a;have:=a s[k] (by
  have:s[k]=s.data.toList[k]'(by simpa using h):=rfl;rw[this];exact aC _)
 rw[this] at b;cases b
def FK (base:Int)(b:UInt8):Bool:=decide (0<=hex b.toNat)&&decide (hex b.toNat<base)
def numOf (base:Int)(l:av):Int:=l.foldl (fun n b=>n*base+hex b.toNat) 0
def number (base most:Int)(l:av):Int×Bool :=
 if l=[]∨most<l.length then (0,F) else if l.all (FK base) then (numOf base l,true) else (0,F)
theorem MH (a:Int)(l:av)(b:UInt8):numOf a (l++[b])=numOf a l*a+hex b.toNat:=by
 simp[numOf]
theorem uV (b:UInt8):-1<=hex b.toNat∧hex b.toNat<=15:=QX _ (by omega) (by have:=b.toNat_lt;omega)
theorem FL (a:Int)(c:0<=a)(d:a<=16):∀(l:av) (n:Int) (B:Nat),0<=n->n<16 ^ B->l.all (FK a)=true ->
 0<=l.foldl (fun n b=>n*a+hex b.toNat) n∧l.foldl (fun n b=>n*a+hex b.toNat) n<16 ^ (B+l.length)
 | [],n,B,f,g,_=>⟨f,g⟩
 | b :: l, n, B, f, g, hl => by
   rw[dK,cO] at hl;have i:=uV b;have j:0<=hex b.toNat:=by
    have:=hl.1;unfold FK at this;rw[cO] at this;exact cZ this.1
   have k:=Int.mul_nonneg f c;have m:=Int.mul_le_mul_of_nonneg_left d f;have e:(16:Int) ^ (B+1)=16 ^ B*16:=Int.pow_succ ..;have:=FL a c d l (n*a+hex b.toNat) (B+1) (by omega) (by omega) hl.2;rw[dL,aW,show B+(l.length+1)=B+1+l.length by omega];exact this
theorem qX (a:Int)(b:0<=a)(c:a<=16)(l:av)(d:l.all (FK a)=true)(f:l.length<=9):0<=numOf a l∧numOf a l<68719476736:=by
 have h:=FL a b c l 0 0 (aB _) (by decide) d;have:(16:Int) ^ (0+l.length)<=16 ^ 9:=by
  have:(16:Nat) ^ (0+l.length)<=16 ^ 9:=Nat.pow_le_pow_right (by decide) (by omega);exact_mod_cast this
 have e:(16:Int) ^ 9=68719476736:=by decide
 exact⟨h.1,by have:=h.2;unfold numOf;omega⟩
theorem CF (p:UInt8->Bool)(l:av)(b:UInt8):(l++[b]).all p=(l.all p&&p b):=by simp
theorem tH (b a:Int)(l:av)(h:l=[]∨a<l.length):number b a l=(0,F):=by unfold number;rw[if_pos h]
theorem zS (a b:Int)(l:av)(h:l.all (FK a)=F):number a b l=(0,F):=by
 unfold number;split
 . rfl
 . rw[h];rfl
theorem xM (a b:Int)(l:av)(c:l≠[])(d:¬b<l.length)(h:l.all (FK a)=true):number a b l=(numOf a l,true):=by
 unfold number;rw[if_neg (by simp[c,d]),h];rfl
theorem iK (s:ay):s.data.toList.length=s.size:=by simp
theorem ne_nil (s:ay)(h:0<s.size):s.data.toList≠[]:=by
 intro e;have:=iK s;rw[e] at this;simp at this;omega
theorem empty_eq (s:ay)(h:s.size=0):s=⟨#[]⟩:=by
 apply ByteArray.ext;exact Array.eq_empty_of_size_eq_zero h
theorem mP (s:ay)(h:0<s.size):s.toList.isEmpty=F:=by
 rw[Lib.toList_data];cases a:s.data.toList with
 | nil=>exact absurd a (ne_nil s h)
 | cons _ _=>rfl
def UQ (b:UInt8)(j:Nat):UInt8:=if 65<=b.toNat∧b.toNat<65+j then b+32 else b
def BN (b:UInt8):UInt8:=UQ b 26
def lower (l:av):av:=l.map BN
theorem nO (l:av):(lower l).length=l.length:=by simp[lower]
theorem data_append (a b:ay):(a++b).data.toList=a.data.toList++b.data.toList:=by simp
theorem str_eq {x:ay}{l:av}(h:x.data.toList=l):x=⟨l.toArray⟩:=by
 obtain⟨⟨m⟩⟩:=x;simp only at h;rw[h]
theorem size_of_list {x:ay}{l:av}(h:x.data.toList=l):x.size=l.length:=by rw[<-h,iK]
theorem PI (b:UInt8):FK 16 b=decide (0<=hex b.toNat):=by
 have:=uV b;unfold FK;rw[aI (show hex b.toNat<16 by omega)];simp
end Go.Proofs.YthhklgjjnaeaoaaGreatDoor.Ch
namespace Go.Proofs.YthhklgjjnaeaoaaGreatDoor.Ln
structure Told where
 text:av
 size:Nat
 ended:Bool
 code:Nat
def open_:Told:=⟨[],0,F,0⟩
def fails (i c:Nat):Told:=⟨[],i,F,c⟩
def go (l:av):Nat->av->Told
 | _,[]=>open_
 | i, c :: t =>
   if c=13 then
    match t with
    | []=>open_
    | d::_=>if d=10 then ⟨l.take i,i+2,true,0⟩ else fails (i+2) 2
   else if c=10 then fails (i+1) 2
   else if Ch.visible c.toNat=F then fails (i+1) 3
   else if i=200 then fails (i+1) 4
   else go l (i+1) t
def of (l:av):Told:=go l 0 l
structure St where
 line:av
 ending:Bool
 code:Nat
def start:St:=⟨[],F,0⟩
def fault (s:St)(c:UInt8):Nat :=
 if s.ending=(c==10) then (if c=13∨c=10 then 0 else if Ch.visible c.toNat=F then 3 else if 200<=s.line.length then 4 else 0) else 2
def next (s:St)(c:UInt8):St :=
 if s.code≠0 then s
 else if fault s c≠0 then { s with code:=fault s c }
 else if c=10 then ⟨[],F,0⟩
 else if c=13 then { s with ending:=true }
 else { s with line:=s.line++[c] }
def text (s:St)(c:UInt8):av:=if s.code=0∧fault s c=0∧c=10 then s.line else []
def ends (s:St)(c:UInt8):Bool:=decide (s.code=0∧fault s c=0∧c=10)
structure Good (s:St):Prop where
 seen:∀b∈s.line,Ch.visible b.toNat=true
 short:s.line.length<=200
theorem Good.start:Good start:=⟨fun b h=>by simp[Ln.start] at h,by simp[Ln.start]⟩
theorem wH {s:St}{c:UInt8}(h:Good s):Good (next s c):=by
 unfold next;split
 . exact h
 . split
   . exact⟨h.seen,h.short⟩
   . split
     . exact Good.start
     . split
       . exact⟨h.seen,h.short⟩
       . rename_i _ a f k;have a:fault s c=0:=by omega
         unfold fault at a;split at a
         . split at a
           . rename_i g;rcases g with e | e <;> contradiction
           . split at a
             . omega
             . split at a
               . omega
               . rename_i _ _ i l;refine⟨fun b d=>?_,by simp;omega⟩;simp at d;rcases d with d | rfl
                 . exact h.seen b d
                 . cases j:Ch.visible (b.toNat:Int)
                   . exact absurd j i
                   . rfl
         . omega
theorem FM {s:St}{c:UInt8}(h:(next s c).code≠0):ends s c=F:=by grind [next,ends]
theorem again {s:St}(c:UInt8)(h:s.code≠0):next s c=s∧text s c=[]∧ends s c=F:=by grind [next,text,ends]
end Go.Proofs.YthhklgjjnaeaoaaGreatDoor.Ln
namespace Go.Proofs.YthhklgjjnaeaoaaGreatDoor.Ch
def iV:Nat->Nat->av
 | 0,n=>[(48+n).toUInt8]
 | f+1,n=>if n<10 then [(48+n).toUInt8] else iV f (n / 10)++[(48+n % 10).toUInt8]
theorem jm:∀f n,(iV f n).length<=f+1∧1<=(iV f n).length:=by intro l;induction l <;> grind [iV]
theorem YD (b:UInt8)(h:capital b.toNat=F):BN b=b:=by
 unfold BN UQ;rw[if_neg];intro a;unfold capital at h;rw[aI (by omega),aI (by omega)] at h;cases h
theorem UR (b:UInt8)(h:capital b.toNat=true):((BN b).toNat:Int)=b.toNat-65+97:=by
 unfold capital at h;rw[cO,bP,bP] at h;unfold BN UQ;rw[if_pos (by omega),UInt8.toNat_add];have:(32:UInt8).toNat=32:=rfl;rw[this];omega
def ws:av:=[32,9]
end Go.Proofs.YthhklgjjnaeaoaaGreatDoor.Ch
namespace Go.Proofs.YthhklgjjnaeaoaaGreatDoor.Fd
def at_ (c:UInt8)(l:av):Nat:=l.findIdx (·==c)
theorem adg (c:UInt8)(l:av):at_ c l<=l.length:=List.findIdx_le_length
theorem PK {c:UInt8}{l:av}(h:at_ c l<l.length):l[at_ c l]=c:=by grind [at_]
theorem JF {c:UInt8}{l:av}{j:Nat}(h:j<at_ c l)(a:j<l.length):l[j]≠c:=by grind [at_]
theorem YE {c:UInt8}{l:av}(h:∀j (a:j<l.length),l[j]≠c):at_ c l=l.length:=by grind [at_]
theorem adh {c:UInt8}{l:av}{k:Nat}(a:k<l.length)(h:l[k]=c)(b:∀j (d:j<k),l[j]≠c):at_ c l=k:=by
 rcases Nat.lt_trichotomy (at_ c l) k with g | g | g
 . exact absurd (PK (Nat.lt_trans g a)) (b _ g)
 . exact g
 . exact absurd h (JF g a)
structure Told where
 name:av
 value:av
 code:Nat
def bad (c:Nat):Told:=⟨[],[],c⟩
def of (l:av):Told :=
 if at_ 58 l=l.length then bad 5
 else if Ch.isToken (l.take (at_ 58 l))=F then bad 6
 else if 40<at_ 58 l then bad 4
 else if Ch.gV (l.drop (at_ 58 l+1))=F then bad 3
 else ⟨l.take (at_ 58 l),Lib.trimS (l.drop (at_ 58 l+1)) Ch.ws,0⟩
def text (n v:av):av×Nat :=
 if Ch.isToken n=F then ([],6)
 else if 40<n.length∨200<n.length+2+v.length then ([],4)
 else if Ch.gV v=F∨Lib.trimS v Ch.ws≠v then ([],3)
 else (n++[58,32]++v,0)
end Go.Proofs.YthhklgjjnaeaoaaGreatDoor.Fd
namespace Go.Proofs.YthhklgjjnaeaoaaGreatDoor.Ck
structure Told where
 body:av
 used:Nat
 over:Bool
 code:Nat
def size (t:av):Int×Bool:=Ch.number 16 6 (Lib.trimS (t.take (Fd.at_ 59 t)) Ch.ws)
def trail:Nat->av->Nat->Told
 | 0,_,_=>⟨[],0,F,0⟩
 | f + 1, l, n =>
   if (Ln.of l).code≠0∨(Ln.of l).ended=F then ⟨[],(Ln.of l).size,F,(Ln.of l).code⟩
   else if (Ln.of l).text=[] then ⟨[],(Ln.of l).size,true,0⟩
   else if n=16 then ⟨[],(Ln.of l).size,F,8⟩
   else if (Fd.of (Ln.of l).text).code≠0 then ⟨[],(Ln.of l).size,F,(Fd.of (Ln.of l).text).code⟩
   else let r:=trail f (l.drop (Ln.of l).size) (n+1);⟨r.body,(Ln.of l).size+r.used,r.over,r.code⟩
def go:Nat->av->Nat->Told
 | 0,_,_=>⟨[],0,F,0⟩
 | f + 1, l, n =>
   if (Ln.of l).code≠0∨(Ln.of l).ended=F then ⟨[],(Ln.of l).size,F,(Ln.of l).code⟩
   else if (size (Ln.of l).text).2=F then ⟨[],(Ln.of l).size,F,7⟩
   else if 4000<n+(size (Ln.of l).text).1.toNat then ⟨[],(Ln.of l).size,F,4⟩
   else if (size (Ln.of l).text).1.toNat=0 then
    let r:=trail (f+1) (l.drop (Ln.of l).size) 0;⟨r.body,(Ln.of l).size+r.used,r.over,r.code⟩
   else
    let k:=(size (Ln.of l).text).1.toNat
    let d:=l.drop (Ln.of l).size
    if d.length<k then ⟨d,(Ln.of l).size+d.length,F,0⟩
    else
     let e:=d.drop k
     if (Ln.of e).code≠0∨(Ln.of e).ended=F then ⟨d.take k,(Ln.of l).size+k+(Ln.of e).size,F,(Ln.of e).code⟩
     else if (Ln.of e).text≠[] then ⟨d.take k,(Ln.of l).size+k+(Ln.of e).size,F,5⟩
     else let r:=go f (e.drop (Ln.of e).size) (n+k);⟨d.take k++r.body,(Ln.of l).size+k+(Ln.of e).size+r.used,r.over,r.code⟩
def of (l:av):Told:=go (l.length+1) l 0
structure St where
 ph:Nat
 ln:Ln.St
 left:Nat
 total:Nat
 count:Nat
 code:Nat
def start:St:=⟨0,Ln.start,0,0,0,0⟩
def line (s:St)(t:av):St :=
 if s.ph=0 then
  (if (size t).2 = F then { s with code := 7 }
   else if 4000<s.total+(size t).1.toNat then { s with code:=4 }
   else if (size t).1.toNat=0 then { s with ph:=3 }
   else { s with ph:=1,left:=(size t).1.toNat,total:=s.total+(size t).1.toNat })
 else if s.ph=2 then (if t≠[] then { s with code:=5 } else { s with ph:=0 })
 else if t=[] then { s with ph:=4 }
 else if s.count=16 then { s with code:=8 }
 else if (Fd.of t).code≠0 then { s with code:=(Fd.of t).code }
 else { s with count:=s.count+1 }
def next (s:St)(c:UInt8):St :=
 if s.code≠0 then s
 else if s.ph=4 then { s with code:=18 }
 else if s.ph=1 then { s with left:=s.left-1,ph:=if s.left<=1 then 2 else 1 }
 else if (Ln.next s.ln c).code≠0 then { s with code:=(Ln.next s.ln c).code }
 else if Ln.ends s.ln c=true then line { s with ln:=Ln.start } (Ln.text s.ln c)
 else { s with ln:=Ln.next s.ln c }
def out (s:St)(c:UInt8):av:=if s.code=0∧s.ph=1 then [c] else []
end Go.Proofs.YthhklgjjnaeaoaaGreatDoor.Ck
namespace Go.Proofs.YthhklgjjnaeaoaaGreatDoor.Sp
structure Up where
 id:Int
 size:Int
 note:ay
 bytes:av
 sent:Int
structure St where
 l:List Up
 last:Int
def new:St:=⟨[],0⟩
def used:List Up->Nat
 | []=>0
 | u::t=>u.bytes.length+used t
def place:List Up->Int->Option Nat
 | [],_=>U
 | u::t,id=>if u.id=id then M 0 else (place t id).map (·+1)
def kH (s:St)(id:Int)(f:Nat->Up->St×Nat):St×Nat :=
 match place s.l id with
 | none=>(s,10)
 | some i => match s.l[i]? with
   | none=>(s,10)
   | some u=>f i u
def create (s:St)(size:Int)(m:ay):St×Int×Nat :=
 if size < -1 then (s,0,1) else if 2000<size∨100<m.size then (s,0,4) else if Ch.gV m.data.toList=F∨Lib.trimS m.data.toList Ch.ws≠m.data.toList then (s,0,3) else if 12<=s.l.length then (s,0,8)
 else (⟨s.l++[⟨s.last+1,size,m,[],0⟩],s.last+1⟩,s.last+1,0)
def append (s:St)(id off:Int)(b:av):St×Nat:=kH s id fun i u =>
 if u.sent≠0 then (s,19) else if off≠u.bytes.length then (s,17) else if 2000<u.bytes.length+b.length∨(0<=u.size∧u.size<u.bytes.length+b.length) then (s,4) else if 6000<used s.l+b.length then (s,16)
 else (⟨s.l.set i { u with bytes:=u.bytes++b },s.last⟩,0)
def declare (s:St)(id size:Int):St×Nat:=kH s id fun i u =>
 if 0<=u.size then (s,18) else if size<0 then (s,1) else if 2000<size∨size<u.bytes.length then (s,4)
 else (⟨s.l.set i { u with size:=size },s.last⟩,0)
def drop (s:St)(id:Int):St×Nat:=kH s id fun i _=>(⟨s.l.eraseIdx i,s.last⟩,0)
def begins (s:St)(id:Int):St×Nat:=kH s id fun i u =>
 if u.sent≠0 then (s,19) else if u.size≠u.bytes.length then (s,14) else (⟨s.l.set i { u with sent:=1 },s.last⟩,0)
def ends (s:St)(id:Int):St×Nat:=kH s id fun i u =>
 if u.sent≠1 then (s,19) else (⟨s.l.set i { u with sent:=2 },s.last⟩,0)
structure adi (last:Int)(u:Up):Prop where
 low:1<=u.id
 high:u.id<=last
 Ay:-1<=u.size
 CG:u.size<=2000
 long:u.bytes.length<=2000
 fits:0<=u.size->u.bytes.length<=u.size
 UU:0<=u.sent
 UW:u.sent<=2
 whole:u.sent≠0->u.size=u.bytes.length
 note:u.note.size<=100
structure Ok (s:St):Prop where
 few:s.l.length<=12
 quota:used s.l<=6000
 CJ:0<=s.last
 rise:(s.l.map (·.id)).Pairwise (·<·)
 all:∀u∈s.l,adi s.last u
theorem Ok.new:Ok new:=⟨by simp[Sp.new],by simp[Sp.new,used],by simp[Sp.new],by simp[Sp.new],fun u h=>by simp[Sp.new] at h⟩
theorem uW:∀a b:List Up,used (a++b)=used a+used b:=by intro l;induction l <;> grind [used]
theorem JG:∀(l:List Up) (i:Nat) (u v:Up),l[i]? = M u->used (l.set i v)+u.bytes.length=used l+v.bytes.length
 | [],i,u,v,h=>by simp at h
 | x :: t, 0, u, v, h => by
   have h:x=u:=by simpa using h
   subst h;rw[dS,used,used];omega
 | x :: t, i + 1, u, v, h => by
   have:=JG t i u v (by simpa using h);rw[List.set_cons_succ,used,used];omega
theorem CK:∀(l:List Up) (i:Nat),used (l.eraseIdx i)<=used l
 | [],i=>by simp[used]
 | x::t,0=>by rw[List.eraseIdx_cons_zero,used];omega
 | x::t,i+1=>by have:=CK t i;rw[List.eraseIdx_cons_succ,used,used];omega
theorem yE:∀(l:List Up) (a:Int) (i:Nat),place l a=M i->∃u,l[i]? = M u∧u.id=a
 | [],a,i,h=>by cases h
 | x :: t, a, i, h => by
   rw[place] at h;split at h
   . rename_i c;injection h with h;subst h;exact⟨x,rfl,c⟩
   . cases b:place t a with
     | none=>rw[b] at h;cases h
     | some j =>
       rw[b] at h;injection h with h;obtain⟨u,d,e⟩:=yE t a j b;subst h;exact⟨u,by simpa using d,e⟩
theorem Ok.set {s:St}(h:Ok s){i:Nat}{u v:Up}(c:s.l[i]? = M u)(b:v.id=u.id)(d:adi s.last v)(f:used s.l+v.bytes.length<=6000+u.bytes.length):Ok ⟨s.l.set i v,s.last⟩:=by
 refine⟨by simpa using h.few,?_,h.CJ,?_,fun x a=>?_⟩
 . have:=JG s.l i u v c;show used (s.l.set i v)<=6000;omega
 . have:(s.l.set i v).map (·.id)=s.l.map (·.id):=by
    rw[List.map_set,b];refine List.ext_getElem? fun k=>?_;rw[List.getElem?_set];split
    . rename_i e;subst e;split
      . rw[List.getElem?_map,c];rfl
      . rename_i g;rw[dU (by omega)]
    . rfl
   show((s.l.set i v).map (·.id)).Pairwise (·<·);rw[this];exact h.rise
 . rcases List.mem_or_eq_of_mem_set a with a | a
   . exact h.all x a
   . subst a;exact d
theorem Ok.at_ {s:St}(h:Ok s){a:Int}{f:Nat->Up->St×Nat}(b:∀i u,s.l[i]? = M u->Ok (f i u).1):Ok (kH s a f).1:=by grind [kH]
theorem Ok.create {s:St}(h:Ok s)(size:Int)(m:ay):Ok (create s size m).1:=by
 unfold Sp.create;split
 . exact h
 . split
   . exact h
   . split
     . exact h
     . split
       . exact h
       . rename_i f g _ i;have j:=h.CJ;refine⟨by simp;omega,?_,by show 0<=s.last+1;omega,?_,fun u c=>?_⟩
         . show used (s.l++[_])<=6000;rw[uW];have:=h.quota;simp[used];omega
         . show((s.l++[(⟨s.last+1,size,m,[],0⟩:Up)]).map (·.id)).Pairwise (·<·);rw[bE,List.pairwise_append];refine⟨h.rise,by simp,fun a ha b d=>?_⟩;obtain⟨u,c,rfl⟩:=aN.1 ha;have:=(h.all u c).high;simp at d;subst d;show u.id<s.last+1;omega
         . rcases bq.1 c with c | c
           . have:=h.all u c;exact⟨this.low,by have:=this.high;show u.id<=s.last+1;omega,this.Ay,this.CG,this.long,this.fits,this.UU,this.UW,this.whole,this.note⟩
           . rw[bA.1 c];exact⟨by show 1<=s.last+1;omega,aB _,by show -1<=size;omega,by show size<=2000;omega,by simp,fun e=>by simpa using e,by simp,by simp,fun e=>absurd rfl e,by show m.size<=100;omega⟩
theorem Ok.append {s:St}(h:Ok s)(f c:Int)(b:av):Ok (append s f c b).1:=by
 refine h.at_ fun i u d=>?_;have a:=h.all u (dH d);have j:=h.quota;split
 . exact h
 . split
   . exact h
   . split
     . exact h
     . split
       . exact h
       . rename_i g k l m;refine h.set d rfl ⟨a.low,a.high,a.Ay,a.CG,by simp;omega,fun e=>?_,a.UU,a.UW,fun e=>absurd e (by simpa using g),a.note⟩ (by simp;omega);have n:0<=u.size:=e;simp only[aV];omega
theorem Ok.declare {s:St}(h:Ok s)(c size:Int):Ok (declare s c size).1:=by
 refine h.at_ fun i u b=>?_;have a:=h.all u (dH b);have d:=h.quota;split
 . exact h
 . split
   . exact h
   . split
     . exact h
     . rename_i f g j;refine h.set b rfl ⟨a.low,a.high,by show -1<=size;omega,by show size<=2000;omega,a.long,fun _=>by show(u.bytes.length:Int)<=size;omega,a.UU,a.UW,fun e=>?_,a.note⟩ (by show used s.l+u.bytes.length<=_;omega);have:=a.whole e;omega
theorem Ok.drop {s:St}(h:Ok s)(a:Int):Ok (drop s a).1:=by
 refine h.at_ fun i u c=>?_;refine⟨dB (List.length_eraseIdx_le ..) h.few,dB (CK s.l i) h.quota,h.CJ,?_,fun x b=>h.all x (List.mem_of_mem_eraseIdx b)⟩;show((s.l.eraseIdx i).map (·.id)).Pairwise (·<·);exact h.rise.sublist ((List.eraseIdx_sublist s.l i).map _)
theorem Ok.begins {s:St}(h:Ok s)(c:Int):Ok (begins s c).1:=by
 refine h.at_ fun i u b=>?_;have a:=h.all u (dH b);have e:=h.quota;split
 . exact h
 . split
   . exact h
   . rename_i f d;exact h.set b rfl ⟨a.low,a.high,a.Ay,a.CG,a.long,a.fits,by simp,by simp,fun _=>by simpa using d,a.note⟩ (by show used s.l+u.bytes.length<=_;omega)
theorem Ok.ends {s:St}(h:Ok s)(d:Int):Ok (ends s d).1:=by
 refine h.at_ fun i u c=>?_;have a:=h.all u (dH c);have f:=h.quota;split
 . exact h
 . rename_i e;have b:u.sent=1:=by simpa using e
   exact h.set c rfl ⟨a.low,a.high,a.Ay,a.CG,a.long,a.fits,by simp,by simp,fun _=>a.whole (by rw[b];decide),a.note⟩ (by show used s.l+u.bytes.length<=_;omega)
theorem FN (l:List Up)(k:Nat)(h:k<l.length):used (l.take (k+1))=used (l.take k)+l[k].bytes.length:=by
 rw[bM h,uW];simp[used]
theorem PL (l:List Up)(k:Nat):used (l.take k)<=used l:=by
 conv=>rhs;rw[<-bV k l,uW]
 omega
theorem UY (l:List Up)(k:Nat)(h:k<l.length):l[k].bytes.length<=used l:=by
 have a:=FN l k h;have b:=PL l (k+1);omega
theorem JH:∀(l:List Up) (a:Int) (k:Nat) (h:k<l.length),l[k].id=a->(∀u∈l.take k,u.id≠a)->place l a=M k
 | x::t,a,0,_,e,_=>by rw[place,if_pos (by simpa using e)]
 | x :: t, a, k + 1, h, e, hn => by
   rw[place,if_neg (hn x (by simp)),JH t a k (by simpa using h) (by simpa using e) (fun u b=>hn u (by simp[b]))];rfl
theorem UZ:∀(l:List Up) (a:Int),(∀u∈l,u.id≠a)->place l a=U:=by intro l;induction l <;> grind [place]
theorem lg {l:List Up}{a:Int}{i:Nat}(h:place l a=M i):i<l.length:=by grind [place,yE]
theorem oh {s:St}{a:Int}{f:Nat->Up->St×Nat}(h:place s.l a=U):kH s a f=(s,10):=by
 unfold kH;rw[h]
theorem om {s:St}{a:Int}{f:Nat->Up->St×Nat}{i:Nat}(h:place s.l a=M i):kH s a f=f i (s.l[i]'(lg h)):=by grind [place,kH]
def pl (l:List Up)(id:Int):Int:=match place l id with
 | none=>-1
 | some i=>i
theorem tJ {l:List Up}{a:Int}(h:place l a=U):pl l a=-1:=by unfold pl;rw[h]
theorem tK {l:List Up}{a:Int}{i:Nat}(h:place l a=M i):pl l a=i:=by unfold pl;rw[h]
theorem CO (s:St)(size:Int)(m:ay):(create s size m).1.last<=s.last+1:=by
 unfold create;split
 . show s.last<=_;omega
 . split
   . show s.last<=_;omega
   . split
     . show s.last<=_;omega
     . split
       . show s.last<=_;omega
       . exact aB _
theorem su (s:St)(a:Int)(f:Nat->Up->St×Nat)(b:∀i u,(f i u).1.last=s.last):(kH s a f).1.last=s.last:=by grind [kH]
theorem Az (s:St)(c a:Int)(b:av):(append s c a b).1.last=s.last:=by grind [append,su]
theorem yF (s:St)(a size:Int):(declare s a size).1.last=s.last:=su s a _ fun i u=>by
 split
 . rfl
 . split
   . rfl
   . split <;> rfl
theorem FP (s:St)(a:Int):(drop s a).1.last=s.last:=su s a _ fun _ _=>rfl
theorem AA (s:St)(a:Int):(begins s a).1.last=s.last:=su s a _ fun i u=>by
 split
 . rfl
 . split <;> rfl
theorem FQ (s:St)(a:Int):(ends s a).1.last=s.last:=su s a _ fun i u=>by
 split <;> rfl
def xO (s:St)(off:Int)(b:av)(i:Nat)(u:Up):St×Nat :=
 if u.sent≠0 then (s,19) else if off≠u.bytes.length then (s,17) else if 2000<u.bytes.length+b.length∨(0<=u.size∧u.size<u.bytes.length+b.length) then (s,4) else if 6000<used s.l+b.length then (s,16)
 else (⟨s.l.set i { u with bytes:=u.bytes++b },s.last⟩,0)
def iV (s:St)(size:Int)(i:Nat)(u:Up):St×Nat :=
 if 0<=u.size then (s,18) else if size<0 then (s,1) else if 2000<size∨size<u.bytes.length then (s,4)
 else (⟨s.l.set i { u with size:=size },s.last⟩,0)
def U0 (s:St)(i:Nat)(_:Up):St×Nat:=(⟨s.l.eraseIdx i,s.last⟩,0)
def Ht (s:St)(i:Nat)(u:Up):St×Nat :=
 if u.sent≠0 then (s,19) else if u.size≠u.bytes.length then (s,14) else (⟨s.l.set i { u with sent:=1 },s.last⟩,0)
def MI (s:St)(i:Nat)(u:Up):St×Nat :=
 if u.sent≠1 then (s,19) else (⟨s.l.set i { u with sent:=2 },s.last⟩,0)
theorem CP (s:St)(c a:Int)(b:av):append s c a b=kH s c (xO s a b):=rfl
theorem QY (s:St)(a size:Int):declare s a size=kH s a (iV s size):=rfl
theorem aa2 (s:St)(a:Int):drop s a=kH s a (U0 s):=rfl
theorem U1 (s:St)(a:Int):begins s a=kH s a (Ht s):=rfl
theorem aa3 (s:St)(a:Int):ends s a=kH s a (MI s):=rfl
end Go.Proofs.YthhklgjjnaeaoaaGreatDoor.Sp
namespace Go.Proofs.YthhklgjjnaeaoaaGreatDoor.Pm
def blank (c:UInt8):Bool:=c==32||c==9
def tok (c:UInt8):Bool:=Ch.token c.toNat
def run (p:UInt8->Bool)(l:av)(i:Nat):Nat:=((l.drop i).takeWhile p).length
theorem JM {p:UInt8->Bool}{l:av}{i:Nat}(h:i<l.length)(a:p l[i]=true):run p l i=1+run p l (i+1):=by
 unfold run;rw[aD h,dV,a];simp only[if_true,aW];omega
theorem JN {p:UInt8->Bool}{l:av}{i:Nat}(h:i<l.length)(a:p l[i]=F):run p l i=0:=by
 unfold run;rw[aD h,dV,a];rfl
theorem run_end (p:UInt8->Bool){l:av}{i:Nat}(h:l.length<=i):run p l i=0:=by
 unfold run;rw[aK h];rfl
theorem U9 (p:UInt8->Bool)(l:av)(i:Nat)(h:i<=l.length):i+run p l i<=l.length:=by
 unfold run;have:=(List.takeWhile_prefix (l:=l.drop i) p).length_le;rw[bT] at this;omega
def blanks (l:av)(i:Nat):Nat:=i+run blank l i
def word (l:av)(i:Nat):Nat:=run tok l i
theorem JO (p:UInt8->Bool)(l:av)(i:Nat):l.drop (i+run p l i)=(l.drop i).dropWhile p:=by
 unfold run;rw[<-List.drop_drop];generalize l.drop i=t;induction t with
 | nil=>rfl
 | cons a t b =>
   rw[dV,dQ];cases p a
   . rfl
   . simpa using b
theorem Va (p:UInt8->Bool)(l:av)(i:Nat):(l.drop i).take (run p l i)=(l.drop i).takeWhile p:=by
 unfold run;generalize l.drop i=t;induction t with
 | nil=>rfl
 | cons a t b =>
   rw[dV];cases p a
   . rfl
   . simpa using b
abbrev rT:=av×av
def quo:av->av->Option (av×av)
 | _,[]=>U
 | acc,c::t=>if c=34 then M (acc,t) else if c=92 then (match t with
  | []=>U
  | d::t'=>quo (acc++[d]) t') else quo (acc++[c]) t
theorem Ia (a:av):quo a []=U:=by unfold quo;rfl
theorem PV (a t:av):quo a (34::t)=M (a,t):=by unfold quo;rw[if_pos rfl]
theorem yI (a:av):quo a [92]=U:=by unfold quo;rw[if_neg (by decide),if_pos rfl]
theorem JQ (a:av)(d:UInt8)(t:av):quo a (92::d::t)=quo (a++[d]) t:=by rw[quo,if_neg (by decide),if_pos rfl]
theorem JR (a:av)(c:UInt8)(t:av)(b:c≠34)(d:c≠92):quo a (c::t)=quo (a++[c]) t:=by rw[quo.eq_def];simp only[];rw[if_neg b,if_neg d]
theorem FV (n:Nat):∀(a t v r:av),t.length<=n->quo a t=M (v,r)->r.length<t.length∧v.length<=a.length+t.length:=by
 induction n with
 | zero =>
   intro a t v r h e;obtain rfl:t=[]:=dh (by omega);rw[Ia] at e;cases e
 | succ n b =>
   intro a t v r h e;cases t with
   | nil=>rw[Ia] at e;cases e
   | cons c t =>
     by_cases f:c=34
     . subst f;rw[PV] at e;injection e with e;injection e with i j;subst i;subst j;simp
     . by_cases g:c=92
       . subst g;cases t with
         | nil=>rw[yI] at e;cases e
         | cons d t =>
           rw[JQ] at e;have:=b _ _ _ _ (by simp at h ⊢;omega) e;simp at this ⊢;omega
       . rw[JR _ _ _ f g] at e;have:=b _ _ _ _ (by simp at h ⊢;omega) e;simp at this ⊢;omega
def val (r:av):Nat ⊕ (av×av) :=
 if r.head? = M 34 then (match quo [] r.tail with
  | none=>.inl 14
  | some x=>.inr x)
 else if r.takeWhile tok=[] then .inl 5 else .inr (r.takeWhile tok,r.dropWhile tok)
def par (r:av):Nat ⊕ (rT×av) :=
 if r.head? = M 59 then
  let r2:=r.tail.dropWhile blank
  if r2.takeWhile tok=[] then .inl 5
  else if (r2.dropWhile tok).head? = M 61 then (match val (r2.dropWhile tok).tail with
   | .inl c=>.inl c
   | .inr x=>.inr ((Ch.lower (r2.takeWhile tok),x.1),x.2))
  else .inl 5
 else .inl 5
def tN:Nat->av->List rT->Nat ⊕ List rT
 | 0,_,acc=>.inr acc
 | n + 1, r, acc =>
   if r.dropWhile blank=[] then .inr acc
   else match par (r.dropWhile blank) with
    | .inl c=>.inl c
    | .inr x=>if acc.any (fun q=>q.1==x.1.1) then .inl 9 else if acc.length=8 then .inl 8 else tN n x.2 (acc++[x.1])
def wrd (l:av):Nat ⊕ (av×av) :=
 let r:=l.dropWhile blank
 if r.takeWhile tok=[] then .inl 5
 else if (r.dropWhile tok).head? = M 47 then
  (if (r.dropWhile tok).tail.takeWhile tok = [] then .inl 5
   else .inr (Ch.lower (r.takeWhile tok)++[47]++Ch.lower ((r.dropWhile tok).tail.takeWhile tok),(r.dropWhile tok).tail.dropWhile tok))
 else .inr (Ch.lower (r.takeWhile tok),r.dropWhile tok)
def fin (n:Nat)(wd r:av)(acc:List rT):Nat ⊕ (av×List rT):=match tN n r acc with
 | .inl c=>.inl c
 | .inr ps=>.inr (wd,ps)
def jL (l:av):Nat ⊕ (av×List rT) :=
 if Ch.gV l=F then .inl 3
 else match wrd l with
  | .inl c=>.inl c
  | .inr x=>fin (l.length+1) x.1 x.2 []
/-! ### by places in a text -/
theorem uZ (l:av)(i:Nat):(l.drop i).dropWhile blank=l.drop (blanks l i):=(JO blank l i).symm
theorem zT (l:av)(i:Nat):(l.drop i).dropWhile tok=l.drop (i+word l i):=(JO tok l i).symm
theorem wK (l:av)(i:Nat):(l.drop i).takeWhile tok=(l.drop i).take (word l i):=(Va tok l i).symm
theorem Vb (l:av)(i:Nat):(l.drop i).takeWhile tok=[]<->word l i=0:=by
 unfold word run;constructor
 . intro h;rw[h];rfl
 . intro h;exact dh h
theorem zU (l:av)(i:Nat):((l.drop i).take (word l i)=[])=(word l i=0):=by
 rw[<-wK];exact propext (Vb l i)
theorem wL (l:av)(i:Nat)(h:i<=l.length):blanks l i<=l.length:=U9 blank l i h
theorem FW (l:av)(i:Nat):i<=blanks l i:=dG _ _
theorem yJ (l:av)(i:Nat)(h:i<=l.length):i+word l i<=l.length:=U9 tok l i h
theorem aa8 (l:av)(i:Nat):val (l.drop i) =
 if l[i]? = M 34 then (match quo [] (l.drop (i+1)) with
  | none=>.inl 14
  | some x=>.inr x)
 else if word l i=0 then .inl 5 else .inr ((l.drop i).take (word l i),l.drop (i+word l i)):=by
 unfold val;simp only[List.head?_drop,List.tail_drop,wK,zT,zU]
theorem aa9 (l:av)(i:Nat):par (l.drop i) =
 if l[i]? = M 59 then
  (if word l (blanks l (i + 1)) = 0 then .inl 5
   else if l[blanks l (i+1)+word l (blanks l (i+1))]? = M 61 then (match val (l.drop (blanks l (i+1)+word l (blanks l (i+1))+1)) with
    | .inl c=>.inl c
    | .inr x=>.inr ((Ch.lower ((l.drop (blanks l (i+1))).take (word l (blanks l (i+1)))),x.1),x.2))
   else .inl 5)
 else .inl 5:=by
 unfold par;simp only[List.head?_drop,List.tail_drop,uZ,zT,wK,zU]
theorem YL (l:av)(n i:Nat)(a:List rT)(b:i<=l.length):tN (n+1) (l.drop i) a =
 if blanks l i=l.length then .inr a
 else match par (l.drop (blanks l i)) with
  | .inl c=>.inl c
  | .inr x=>if a.any (fun q=>q.1==x.1.1) then .inl 9 else if a.length=8 then .inl 8 else tN n x.2 (a++[x.1]):=by
 have d:=wL l i b;rw[tN,uZ];by_cases h:blanks l i=l.length
 . rw[if_pos h,if_pos (by rw[h,List.drop_length])]
 . rw[if_neg h,if_neg (fun e=>h (by have:=bC List.length e;rw[bT] at this;simp at this;omega))]
theorem abb (l:av):wrd l =
 if word l (blanks l 0)=0 then .inl 5
 else if l[blanks l 0+word l (blanks l 0)]? = M 47 then
  (if word l (blanks l 0 + word l (blanks l 0) + 1) = 0 then .inl 5
   else .inr (Ch.lower ((l.drop (blanks l 0)).take (word l (blanks l 0)))++[47]++Ch.lower ((l.drop (blanks l 0+word l (blanks l 0)+1)).take (word l (blanks l 0+word l (blanks l 0)+1))),l.drop (blanks l 0+word l (blanks l 0)+1+word l (blanks l 0+word l (blanks l 0)+1))))
 else .inr (Ch.lower ((l.drop (blanks l 0)).take (word l (blanks l 0))),l.drop (blanks l 0+word l (blanks l 0))):=by
 unfold wrd;have e:l.dropWhile blank=l.drop (blanks l 0):=by have:=uZ l 0;rwa[List.drop_zero] at this
 simp only[e,zT,List.head?_drop,List.tail_drop,wK,zU]
theorem Vd (l:av)(c:Ch.gV l=true)(a b:Nat)(d:blanks l 0=a)(e:word l a=b):jL l =
 if b=0 then .inl 5
 else if l[a+b]? = M 47 then
  (if word l (a + b + 1) = 0 then .inl 5
   else fin (l.length+1) (Ch.lower ((l.drop a).take b)++[47]++Ch.lower ((l.drop (a+b+1)).take (word l (a+b+1)))) (l.drop (a+b+1+word l (a+b+1))) [])
 else fin (l.length+1) (Ch.lower ((l.drop a).take b)) (l.drop (a+b)) []:=by grind [Ch.gV,blanks,word,jL,fin,Ch.lower,abb]
theorem fin_at (l:av)(n i:Nat)(wd:av)(a:List rT)(e:i<=l.length):fin (n+1) wd (l.drop i) a =
 if blanks l i=l.length then .inr (wd,a)
 else match par (l.drop (blanks l i)) with
  | .inl c=>.inl c
  | .inr x=>if a.any (fun q=>q.1==x.1.1) then .inl 9 else if a.length=8 then .inl 8 else fin n wd x.2 (a++[x.1]):=by
 unfold fin;rw[YL l n i a e];by_cases h:blanks l i=l.length
 . rw[if_pos h,if_pos h]
 . rw[if_neg h,if_neg h];cases par (l.drop (blanks l i)) with
   | inl c=>rfl
   | inr x =>
     simp only[];by_cases b:(a.any fun q=>q.1==x.1.1)=true
     . rw[if_pos b,if_pos b]
     . rw[if_neg b,if_neg b];by_cases d:a.length=8
       . rw[if_pos d,if_pos d]
       . rw[if_neg d,if_neg d]
end Go.Proofs.YthhklgjjnaeaoaaGreatDoor.Pm
namespace Go.Proofs.YthhklgjjnaeaoaaGreatDoor.Rp
def tab:List (Int×av):=[(200,[79,75]),(201,[67,114,101,97,116,101,100]),(204,[78,111,32,67,111,110,116,101,110,116]),(400,[66,97,100,32,82,101,113,117,101,115,116]),(404,[78,111,116,32,70,111,117,110,100]),(405,[77,101,116,104,111,100,32,78,111,116,32,65,108,108,111,119,101,100]),(409,[67,111,110,102,108,105,99,116]),(412,[80,114,101,99,111,110,100,105,116,105,111,110,32,70,97,105,108,101,100]),(413,[67,111,110,116,101,110,116,32,84,111,111,32,76,97,114,103,101]),(415,[85,110,115,117,112,112,111,114,116,101,100,32,77,101,100,105,97,32,84,121,112,101]),(507,[73,110,115,117,102,102,105,99,105,101,110,116,32,83,116,111,114,97,103,101])]
def look:List (Int×av)->Int->av
 | [],_=>[]
 | p::t,n=>if p.1=n then p.2 else look t n
def word (n:Int):av:=look tab n
theorem Ib:∀(l:List (Int×av)) (n:Int),(∀p∈l,p.1≠n)->look l n=[]:=by intro l;induction l <;> grind [look]
theorem Vk {n:Int}(h:word n≠[]):200<=n∧n<=507:=by
 by_cases c:∀p∈tab,p.1≠n
 . exact absurd (Ib tab n c) h
 . have:∃p,p∈tab∧p.1=n:=by
    apply dW;intro d;exact c (fun p b e=>d ⟨p,b,e⟩)
   obtain⟨p,b,rfl⟩:=this;have a:∀q∈tab,200<=q.1∧q.1<=507:=by decide
   exact a p b
theorem JV (n:Int):(word n).length<=22:=by
 by_cases c:∀p∈tab,p.1≠n
 . rw[word,Ib tab n c];decide
 . have:∃p,p∈tab∧p.1=n:=by
    apply dW;intro d;exact c (fun p b e=>d ⟨p,b,e⟩)
   obtain⟨p,b,rfl⟩:=this;have a:∀q∈tab,(look tab q.1).length<=22:=by decide
   exact a p b
def jB (p:ay×ay):av:=(Fd.text p.1.data.toList p.2.data.toList).1++[13,10]
def code:au->Nat
 | []=>0
 | p::t=>if (Fd.text p.1.data.toList p.2.data.toList).2≠0 then (Fd.text p.1.data.toList p.2.data.toList).2 else code t
theorem Q7:∀(l:au),(∀p∈l,(Fd.text p.1.data.toList p.2.data.toList).2=0)->code l=0:=by intro l;induction l <;> grind [Fd.text,code]
theorem JW:∀(l:au) (i:Nat) (a:i<l.length),(∀p∈l.take i,(Fd.text p.1.data.toList p.2.data.toList).2=0)->(Fd.text l[i].1.data.toList l[i].2.data.toList).2≠0->code l=(Fd.text l[i].1.data.toList l[i].2.data.toList).2
 | p::t,0,_,_,hc=>by rw[code,if_pos (by simpa using hc)];rfl
 | p :: t, i + 1, a, hz, hc => by
   rw[code,if_neg (by simpa using hz p (by simp)),JW t i (by simpa using a) (fun q b=>hz q (by simp[b])) (by simpa using hc)];rfl
def h11:av:=[72,84,84,80,47,49,46,49,32]
def cl:av:=[67,111,110,116,101,110,116,45,76,101,110,103,116,104,58,32]
def first (st:Int):av:=h11++Ch.iV 8 st.toNat++[32]++word st++[13,10]
def text (st:Int)(l:au)(nv:Nat)(body:av):av×Nat :=
 if word st=[] then ([],11) else if 16<=l.length then ([],8) else if nv≠0 then ([],12) else if code l≠0 then ([],code l) else (first st++l.flatMap jB++cl++Ch.iV 8 body.length++[13,10,13,10]++body,0)
end Go.Proofs.YthhklgjjnaeaoaaGreatDoor.Rp
namespace Go.Proofs.YthhklgjjnaeaoaaGreatDoor.Ck
def over (s:St)(c:UInt8):Bool:=decide (s.code=0∧s.ph≠4∧(next s c).code=0∧(next s c).ph=4)
theorem Q8 {s:St}(h:s.code≠0)(c:UInt8):next s c=s:=by unfold next;rw[if_pos h]
def pc (s:St):Nat:=if s.code≠0 then s.code else if s.ph=4 then 18 else 0
def nx (s:St):Nat:=if s.ph=0 then 0 else if s.ph=3 then 2 else 1
def lf (s:St):Nat:=if s.ph=1 then s.left else 0
structure Good (s:St):Prop where
 ph:s.ph<=4
 ln:Ln.Good s.ln
 lc:s.ln.code=0
 left:s.ph=1->0<s.left
 yG:s.left<=4000
 total:s.total<=4000
 count:s.count<=16
theorem Good.start:Good start:=⟨aA _,Ln.Good.start,rfl,fun h=>(by cases h),aA _,aA _,aA _⟩
theorem lG {s:St}:pc s=0<->s.code=0∧s.ph≠4:=by grind [pc]
theorem Good.line {s:St}(h:Good s)(t:av):Good (line s t):=by grind [Good,line]
theorem Good.next {s:St}(h:Good s)(c:UInt8):Good (next s c):=by
 have l:=h;obtain⟨f,g,k,i,j,b,d⟩:=h;unfold Ck.next;split
 . exact l
 . split
   . exact⟨f,g,k,i,j,b,d⟩
   . split
     . refine⟨?_,g,k,fun e=>?_,(by show s.left-1<=4000;omega),b,d⟩
       . show(if s.left<=1 then 2 else 1)<=4;split <;> omega
       . have m:(if s.left<=1 then 2 else 1)=1:=e;show 0<s.left-1;split at m <;> omega
     . split
       . exact⟨f,g,k,i,j,b,d⟩
       . split
         . exact Good.line (s:={ s with ln:=Ln.start }) ⟨f,Ln.Good.start,rfl,i,j,b,d⟩ _
         . exact⟨f,Ln.wH g,(by rename_i a _;show(Ln.next s.ln c).code=0;omega),i,j,b,d⟩
theorem FY {t:av}(h:∀b∈t,Ch.ws.contains b=F):Lib.trimS t Ch.ws=t:=by
 have c:∀u:av,(∀b∈u,Ch.ws.contains b=F)->u.dropWhile (Ch.ws.contains ·)=u:=by
  intro u d;cases u with
  | nil=>rfl
  | cons a v=>rw[dQ,d a (cu ..)];rfl
 unfold Lib.trimS Lib.trimLeftS Lib.trimRightS;rw[c t.reverse (fun b e=>h b (List.mem_reverse.1 e)),List.reverse_reverse,c t h]
theorem YO (s:St)(c:UInt8):(out s c).length<=1:=by unfold out;split <;> simp
end Go.Proofs.YthhklgjjnaeaoaaGreatDoor.Ck
namespace Go.Proofs.YthhklgjjnaeaoaaGreatDoor
open Go.RowKit
theorem yO (l:av):(Lib.trimS l Ch.ws).length<=l.length:=by
 unfold Lib.trimS Lib.trimLeftS Lib.trimRightS;have a:=(bR (l:=(l.reverse.dropWhile (Ch.ws.contains ·)).reverse) (Ch.ws.contains ·)).length_le;have b:=(bR (l:=l.reverse) (Ch.ws.contains ·)).length_le;simp only[List.length_reverse] at a b;omega
end Go.Proofs.YthhklgjjnaeaoaaGreatDoor
namespace Go.Proofs.YthhklgjjnaeaoaaGreatDoor.Fd
theorem Vu (l:av)(c:UInt8):(Lib.indexByte l c=-1∧at_ c l=l.length)∨(Lib.indexByte l c=(at_ c l:Int)∧at_ c l<l.length):=by
 by_cases h:Lib.indexByte l c=-1
 . refine Or.inl ⟨h,YE fun j a e=>?_⟩;exact Lib.indexByte_none h j (by rw[dz a,e])
 . have f:=Lib.indexByte_ge l c;obtain⟨o,d⟩:∃o:Nat,Lib.indexByte l c=o:=⟨(Lib.indexByte l c).toNat,by omega⟩;obtain⟨g,i⟩:=Lib.indexByte_some d;obtain⟨b,k⟩:=aQ.1 g;have:=adh b k fun j a e=>i j a (by rw[dz (by omega),e]);refine Or.inr ⟨by rw[d,this],by omega⟩
theorem rV (p q:UInt8->Bool)(h:∀b,q b=true->p b=true):∀l:av,(l.dropWhile q).all p=l.all p
 | []=>rfl
 | a :: t => by
   rw[dQ];cases c:q a
   . rfl
   . rw[if_pos rfl,rV p q h t,dK,h a c];rfl
theorem PY (b:UInt8)(h:Ch.ws.contains b=true):Ch.visible b.toNat=true:=by
 have a:=b.toNat_lt;have:=(show ∀n:Fin 256,Ch.ws.contains n.val.toUInt8=true->Ch.visible ((n.val.toUInt8).toNat:Int)=true by decide +kernel) ⟨b.toNat,a⟩;have e:b.toNat.toUInt8=b:=by simp
 simp only[e] at this;exact this h
theorem Rj (l:av):Ch.gV (Lib.trimS l Ch.ws)=Ch.gV l:=by
 unfold Ch.gV Lib.trimS Lib.trimLeftS Lib.trimRightS;rw[rV _ _ PY,List.all_reverse,rV _ _ PY,List.all_reverse]
theorem YS (l:av):of l=if at_ 58 l=l.length then bad 5
 else if Ch.isToken (l.take (at_ 58 l))=F then bad 6
 else if 40<at_ 58 l then bad 4
 else if Ch.gV (Lib.trimS (l.drop (at_ 58 l+1)) Ch.ws)=F then bad 3
 else ⟨l.take (at_ 58 l),Lib.trimS (l.drop (at_ 58 l+1)) Ch.ws,0⟩:=by
 unfold of;rw[Rj]
theorem F6 (l:av):(of l).name.length<=l.length∧(of l).value.length<=l.length:=by
 unfold of;split
 . simp[bad]
 . split
   . simp[bad]
   . split
     . simp[bad]
     . split
       . simp[bad]
       . refine⟨List.length_take_le' ..,?_⟩;have:=yO (l.drop (at_ 58 l+1));rw[bT] at this;show(Lib.trimS (l.drop (at_ 58 l+1)) Ch.ws).length<=l.length;omega
theorem J4 (n v:av):(text n v).1.length<=n.length+2+v.length:=by grind [text]
end Go.Proofs.YthhklgjjnaeaoaaGreatDoor.Fd
namespace Go.Proofs.YthhklgjjnaeaoaaGreatDoor.Pm
theorem Ke (p:UInt8->Bool)(l:av):(l.takeWhile p).length<=l.length:=(List.takeWhile_prefix (l:=l) p).length_le
theorem vD (p:UInt8->Bool)(l:av):(l.dropWhile p).length<=l.length:=(bR (l:=l) p).length_le
theorem P8 (p:UInt8->Bool)(l:av):(l.takeWhile p).length+(l.dropWhile p).length=l.length:=by
 rw[<-aV,List.takeWhile_append_dropWhile]
theorem YX {r v r':av}(h:val r=.inr (v,r')):v.length<=r.length∧r'.length<=r.length:=by
 unfold val at h;split at h
 . split at h
   . cases h
   . rename_i x a;injection h with h;subst h;have:=FV _ _ _ _ _ (aM _) a;rw[bQ] at this;simp only[bY] at this;omega
 . split at h
   . cases h
   . injection h with h;injection h with b c;subst b;subst c;exact⟨Ke _ _,vD _ _⟩
theorem YZ {r r':av}{p:rT}(h:par r=.inr (p,r')):p.1.length<=r.length∧p.2.length<=r.length∧r'.length<=r.length:=by
 unfold par at h;split at h
 . simp only[] at h;split at h
   . cases h
   . split at h
     . split at h
       . cases h
       . rename_i x a;injection h with h;injection h with b c;subst b;subst c;have d:=YX (v:=x.1) (r':=x.2) a;rw[bQ] at d;have f:=vD tok (r.tail.dropWhile blank);have e:=vD blank r.tail;have g:=Ke tok (r.tail.dropWhile blank);rw[bQ] at e;dsimp only;rw[Ch.nO];omega
     . cases h
 . cases h
theorem Kg (N:Nat):∀(n:Nat) (r:av) (a b:List rT),r.length<=N->(∀p∈a,p.1.length<=N∧p.2.length<=N)->tN n r a=.inr b->∀p∈b,p.1.length<=N∧p.2.length<=N
 | 0, r, a, b, _, ha, h => by
   rw[tN] at h;injection h with h;subst h;exact ha
 | n + 1, r, a, b, e, ha, h => by
   rw[tN] at h;split at h
   . injection h with h;subst h;exact ha
   . split at h
     . cases h
     . rename_i x d;split at h
       . cases h
       . split at h
         . cases h
         . have f:=YZ (p:=x.1) (r':=x.2) d;have g:=vD blank r;refine Kg N n x.2 _ b (by omega) (fun p c=>?_) h;rw[bq,bA] at c;rcases c with c | rfl
           . exact ha p c
           . omega
theorem Y0 {l wd r:av}(h:wrd l=.inr (wd,r)):wd.length<=l.length∧r.length<=l.length:=by
 unfold wrd at h;simp only[] at h;have f:=vD blank l;have g:=P8 tok (l.dropWhile blank);split at h
 . cases h
 . split at h
   . rename_i a;split at h
     . cases h
     . injection h with h;injection h with b c;subst b;subst c;have d:=P8 tok ((l.dropWhile blank).dropWhile tok).tail;rw[bQ] at d;have i:0<((l.dropWhile blank).dropWhile tok).length:=by
        cases e:(l.dropWhile blank).dropWhile tok with
        | nil=>rw[e] at a;cases a
        | cons _ _=>simp
       simp only[aV,Ch.nO,List.length_singleton];omega
   . injection h with h;injection h with b c;subst b;subst c;rw[Ch.nO];omega
theorem zY {l wd:av}{b:List rT}(h:jL l=.inr (wd,b)):wd.length<=l.length∧∀p∈b,p.1.length<=l.length∧p.2.length<=l.length:=by
 unfold jL at h;split at h
 . cases h
 . split at h
   . cases h
   . rename_i x c;unfold fin at h;split at h
     . cases h
     . rename_i d a;injection h with h;injection h with e f;subst e;subst f;obtain⟨g,i⟩:=Y0 (wd:=x.1) (r:=x.2) c;exact⟨g,Kg l.length _ _ _ _ i (fun p a=>by cases a) a⟩
end Go.Proofs.YthhklgjjnaeaoaaGreatDoor.Pm
namespace Go.Proofs.YthhklgjjnaeaoaaGreatDoor
namespace Ck
section
section
section
section
section
section
section
end
end
end
end
end
end
section
section
section
end
end
end
end
end Ck
theorem Ku (t:av):0<=(Ck.size t).1∧(Ck.size t).1<68719476736:=by
 unfold Ck.size;generalize Lib.trimS (t.take (Fd.at_ 59 t)) Ch.ws=l;unfold Ch.number;split
 . exact⟨aB _,by decide⟩
 . split
   . rename_i a b;have c:¬(6:Int)<l.length:=fun e=>a (Or.inr e);exact Ch.qX 16 (by omega) (by omega) l b (by omega)
   . exact⟨aB _,by decide⟩
end Go.Proofs.YthhklgjjnaeaoaaGreatDoor