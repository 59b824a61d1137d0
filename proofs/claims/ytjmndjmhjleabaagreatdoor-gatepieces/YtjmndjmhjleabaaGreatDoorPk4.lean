/- Small texts, one behind the other: PlainA, PlainL, PlainN, PlainLT, PlainB, PlainF, PlainCK, PlainUA, PlainUB, PlainP, PlainM, PlainRp, PlainCL, PlainCG, PlainCB, PlainCW, PlainT, PlainG, PlainMT, PlainMB, PlainMD, PlainCO. -/
import Derived.Lib.SlTrimSet
import Derived.Lib.IndexLaws
import Derived.Lib.Strings
import Derived.Below
namespace Go.Proofs.YtjmndjmhjleabaaGreatDoor.Ch
def digit (c:Int):Bool:=decide (48<=c)&&decide (c<=57)
def capital (c:Int):Bool:=decide (65<=c)&&decide (c<=90)
def letter (c:Int):Bool:=(decide (97<=c)&&decide (c<=122))||capital c
def visible (c:Int):Bool:=c==9||(decide (32<=c)&&c != 127)
def marks:List UInt8:=[33,35,36,37,38,39,42,43,45,46,94,95,96,124,126]
def token (c:Int):Bool:=digit c||letter c||decide (0<=Lib.indexByte marks c.toNat.toUInt8)
def hex (c:Int):Int:=if digit c then c-48 else if decide (97<=c)&&decide (c<=102) then c-87 else if decide (65<=c)&&decide (c<=70) then c-55 else -1
theorem Q7 {p:Int->Bool}(h:(List.range 256).all (fun n=>p (n:Int))=true)(c:Int)(h0:0<=c)(h1:c<=255):p c=true:=by
 obtain⟨n,rfl⟩:=Int.eq_ofNat_of_zero_le h0;exact List.all_eq_true.1 h n (List.mem_range.2 (by omega))
def isToken (l:List UInt8):Bool:=!l.isEmpty&&l.all fun b=>token b.toNat
def wR (l:List UInt8):Bool:=l.all fun b=>token b.toNat
def aP (l:List UInt8):Bool:=l.all fun b=>visible b.toNat
theorem J8 (c:Int)(h0:0<=c)(h1:c<=255):-1<=hex c∧hex c<=15:=by
 have:=Q7 (p:=fun c=>decide (-1<=hex c∧hex c<=15)) (by decide +kernel) c h0 h1;simpa using this
theorem iB (s:ByteArray)(k:Nat)(h:k<s.size):s.data.toList.take (k+1)=s.data.toList.take k++[s[k]]:=by
 rw[List.take_succ_eq_append_getElem (by simpa using h)];rfl
theorem qZ (s:ByteArray)(k:Nat)(h:s.size<=k):s.data.toList.take k=s.data.toList :=
 List.take_of_length_le (by simpa using h)
theorem nU (p:UInt8->Bool)(s:ByteArray)(k:Nat)(h:k<s.size)(hp:p s[k]=false):s.data.toList.all p=false:=by
 rw[Bool.eq_false_iff,Ne,List.all_eq_true];intro hall;have:=hall s[k] (by
  have:s[k]=s.data.toList[k]'(by simpa using h):=rfl;rw[this];exact List.getElem_mem _)
 rw[this] at hp;cases hp
def Af (base:Int)(b:UInt8):Bool:=decide (0<=hex b.toNat)&&decide (hex b.toNat<base)
def numOf (base:Int)(l:List UInt8):Int:=l.foldl (fun n b=>n*base+hex b.toNat) 0
def number (base most:Int)(l:List UInt8):Int×Bool :=
 if l=[]∨most<l.length then (0,false) else if l.all (Af base) then (numOf base l,true) else (0,false)
theorem FY (base:Int)(l:List UInt8)(b:UInt8):numOf base (l++[b])=numOf base l*base+hex b.toNat:=by
 simp[numOf]
theorem nV (b:UInt8):-1<=hex b.toNat∧hex b.toNat<=15:=J8 _ (by omega) (by have:=b.toNat_lt;omega)
theorem Ag (base:Int)(hb0:0<=base)(hb1:base<=16):∀(l:List UInt8) (n:Int) (B:Nat),0<=n->n<16 ^ B->l.all (Af base)=true ->
 0<=l.foldl (fun n b=>n*base+hex b.toNat) n∧l.foldl (fun n b=>n*base+hex b.toNat) n<16 ^ (B+l.length)
 | [],n,B,h0,h1,_=>⟨h0,h1⟩
 | b :: l, n, B, h0, h1, hl => by
   rw[List.all_cons,Bool.and_eq_true] at hl;have hx:=nV b;have hd:0<=hex b.toNat:=by
    have:=hl.1;unfold Af at this;rw[Bool.and_eq_true] at this;exact of_decide_eq_true this.1
   have p0:0<=n*base:=Int.mul_nonneg h0 hb0;have p1:n*base<=n*16:=Int.mul_le_mul_of_nonneg_left hb1 h0;have e:(16:Int) ^ (B+1)=16 ^ B*16:=Int.pow_succ ..;have:=Ag base hb0 hb1 l (n*base+hex b.toNat) (B+1) (by omega) (by omega) hl.2;rw[List.foldl_cons,List.length_cons,show B+(l.length+1)=B+1+l.length by omega];exact this
theorem lq (base:Int)(hb0:0<=base)(hb1:base<=16)(l:List UInt8)(hl:l.all (Af base)=true)(h9:l.length<=9):0<=numOf base l∧numOf base l<68719476736:=by
 have h:=Ag base hb0 hb1 l 0 0 (Int.le_refl _) (by decide) hl;have:(16:Int) ^ (0+l.length)<=16 ^ 9:=by
  have:(16:Nat) ^ (0+l.length)<=16 ^ 9:=Nat.pow_le_pow_right (by decide) (by omega);exact_mod_cast this
 have e:(16:Int) ^ 9=68719476736:=by decide
 exact⟨h.1,by have:=h.2;unfold numOf;omega⟩
theorem wS (p:UInt8->Bool)(l:List UInt8)(b:UInt8):(l++[b]).all p=(l.all p&&p b):=by simp
theorem mJ (base most:Int)(l:List UInt8)(h:l=[]∨most<l.length):number base most l=(0,false):=by unfold number;rw[if_pos h]
theorem tq (base most:Int)(l:List UInt8)(h:l.all (Af base)=false):number base most l=(0,false):=by
 unfold number;split
 . rfl
 . rw[h];rfl
theorem qG (base most:Int)(l:List UInt8)(h1:l≠[])(h2:¬most<l.length)(h:l.all (Af base)=true):number base most l=(numOf base l,true):=by
 unfold number;rw[if_neg (by simp[h1,h2]),h];rfl
theorem bC (s:ByteArray):s.data.toList.length=s.size:=by simp
theorem ne_nil (s:ByteArray)(h:0<s.size):s.data.toList≠[]:=by
 intro e;have:=bC s;rw[e] at this;simp at this;omega
theorem empty_eq (s:ByteArray)(h:s.size=0):s=⟨#[]⟩:=by
 apply ByteArray.ext;exact Array.eq_empty_of_size_eq_zero h
theorem gW (s:ByteArray)(h:0<s.size):s.toList.isEmpty=false:=by
 rw[Lib.toList_data];cases h':s.data.toList with
 | nil=>exact absurd h' (ne_nil s h)
 | cons _ _=>rfl
def Nq (b:UInt8)(j:Nat):UInt8:=if 65<=b.toNat∧b.toNat<65+j then b+32 else b
def wT (b:UInt8):UInt8:=Nq b 26
def lower (l:List UInt8):List UInt8:=l.map wT
theorem iM (l:List UInt8):(lower l).length=l.length:=by simp[lower]
theorem data_append (a b:ByteArray):(a++b).data.toList=a.data.toList++b.data.toList:=by simp
theorem str_eq {x:ByteArray}{l:List UInt8}(h:x.data.toList=l):x=⟨l.toArray⟩:=by
 obtain⟨⟨m⟩⟩:=x;simp only at h;rw[h]
theorem size_of_list {x:ByteArray}{l:List UInt8}(h:x.data.toList=l):x.size=l.length:=by rw[<-h,bC]
theorem Je (b:UInt8):Af 16 b=decide (0<=hex b.toNat):=by
 have:=nV b;unfold Af;rw[decide_eq_true (show hex b.toNat<16 by omega)];simp
end Go.Proofs.YtjmndjmhjleabaaGreatDoor.Ch
namespace Go.Proofs.YtjmndjmhjleabaaGreatDoor.Ln
structure Told where
 text:List UInt8
 size:Nat
 ended:Bool
 code:Nat
def open_:Told:=⟨[],0,false,0⟩
def fails (i c:Nat):Told:=⟨[],i,false,c⟩
def go (l:List UInt8):Nat->List UInt8->Told
 | _,[]=>open_
 | i, c :: t =>
   if c=13 then
    match t with
    | []=>open_
    | d::_=>if d=10 then ⟨l.take i,i+2,true,0⟩ else fails (i+2) 2
   else if c=10 then fails (i+1) 2
   else if Ch.visible c.toNat=false then fails (i+1) 3
   else if i=200 then fails (i+1) 4
   else go l (i+1) t
def of (l:List UInt8):Told:=go l 0 l
structure St where
 line:List UInt8
 ending:Bool
 code:Nat
def start:St:=⟨[],false,0⟩
def fault (s:St)(c:UInt8):Nat :=
 if s.ending=(c==10) then (if c=13∨c=10 then 0 else if Ch.visible c.toNat=false then 3 else if 200<=s.line.length then 4 else 0) else 2
def next (s:St)(c:UInt8):St :=
 if s.code≠0 then s
 else if fault s c≠0 then { s with code:=fault s c }
 else if c=10 then ⟨[],false,0⟩
 else if c=13 then { s with ending:=true }
 else { s with line:=s.line++[c] }
def text (s:St)(c:UInt8):List UInt8:=if s.code=0∧fault s c=0∧c=10 then s.line else []
def ends (s:St)(c:UInt8):Bool:=decide (s.code=0∧fault s c=0∧c=10)
def begun (s:St):Bool:=s.ending||decide (0<s.line.length)
structure Good (s:St):Prop where
 seen:∀b∈s.line,Ch.visible b.toNat=true
 short:s.line.length<=200
theorem Good.start:Good start:=⟨fun b h=>by simp[Ln.start] at h,by simp[Ln.start]⟩
theorem o7 {s:St}{c:UInt8}(h:Good s):Good (next s c):=by
 unfold next;split
 . exact h
 . split
   . exact⟨h.seen,h.short⟩
   . split
     . exact Good.start
     . split
       . exact⟨h.seen,h.short⟩
       . rename_i _ hf h10 ql;have hf:fault s c=0:=by omega
         unfold fault at hf;split at hf
         . split at hf
           . rename_i hc;rcases hc with e | e <;> contradiction
           . split at hf
             . omega
             . split at hf
               . omega
               . rename_i _ _ hv hl;refine⟨fun b hb=>?_,by simp;omega⟩;simp at hb;rcases hb with hb | rfl
                 . exact h.seen b hb
                 . cases hh:Ch.visible (b.toNat:Int)
                   . exact absurd hh hv
                   . rfl
         . omega
theorem Ah {s:St}{c:UInt8}(h:(next s c).code≠0):ends s c=false:=by
 cases hE:ends s c
 . rfl
 . unfold ends at hE;rw[decide_eq_true_eq] at hE;obtain⟨h0,hf,rfl⟩:=hE;exact absurd (by unfold next;rw[if_neg (by omega),hf];rfl) h
theorem again {s:St}(c:UInt8)(h:s.code≠0):next s c=s∧text s c=[]∧ends s c=false:=by
 refine⟨by unfold next;rw[if_pos h],by unfold text;rw[if_neg (fun e=>h e.1)],by unfold ends;simp[h]⟩
end Go.Proofs.YtjmndjmhjleabaaGreatDoor.Ln
namespace Go.Proofs.YtjmndjmhjleabaaGreatDoor.Ch
def bY:Nat->Nat->List UInt8
 | 0,n=>[(48+n).toUInt8]
 | f+1,n=>if n<10 then [(48+n).toUInt8] else bY f (n / 10)++[(48+n % 10).toUInt8]
theorem dA:∀f n,(bY f n).length<=f+1∧1<=(bY f n).length
 | 0,n=>by simp[bY]
 | f + 1, n => by
   unfold bY;split
   . simp
   . have:=dA f (n / 10);simp;omega
theorem Q8 (b:UInt8)(h:capital b.toNat=false):wT b=b:=by
 unfold wT Nq;rw[if_neg];intro hc;unfold capital at h;rw[decide_eq_true (by omega),decide_eq_true (by omega)] at h;cases h
theorem Nr (b:UInt8)(h:capital b.toNat=true):((wT b).toNat:Int)=b.toNat-65+97:=by
 unfold capital at h;rw[Bool.and_eq_true,decide_eq_true_eq,decide_eq_true_eq] at h;unfold wT Nq;rw[if_pos (by omega),UInt8.toNat_add];have:(32:UInt8).toNat=32:=rfl;rw[this];omega
def ws:List UInt8:=[32,9]
end Go.Proofs.YtjmndjmhjleabaaGreatDoor.Ch
namespace Go.Proofs.YtjmndjmhjleabaaGreatDoor.Fd
def at_ (c:UInt8)(l:List UInt8):Nat:=l.findIdx (·==c)
theorem Tp (c:UInt8)(l:List UInt8):at_ c l<=l.length:=List.findIdx_le_length
theorem Bz {c:UInt8}{l:List UInt8}(h:at_ c l<l.length):l[at_ c l]=c:=by
 have:=List.findIdx_getElem (w:=h);exact beq_iff_eq.1 this
theorem C9 {c:UInt8}{l:List UInt8}{j:Nat}(h:j<at_ c l)(hj:j<l.length):l[j]≠c:=by
 have:=List.not_of_lt_findIdx h;intro e;exact absurd (beq_iff_eq.2 e) (by simpa using this)
theorem Q9 {c:UInt8}{l:List UInt8}(h:∀j (hj:j<l.length),l[j]≠c):at_ c l=l.length:=by
 rcases Nat.lt_or_ge (at_ c l) l.length with g | g
 . exact absurd (Bz g) (h _ g)
 . exact Nat.le_antisymm (Tp c l) g
theorem WV {c:UInt8}{l:List UInt8}{k:Nat}(hk:k<l.length)(h:l[k]=c)(hf:∀j (hj:j<k),l[j]≠c):at_ c l=k:=by
 rcases Nat.lt_trichotomy (at_ c l) k with g | g | g
 . exact absurd (Bz (Nat.lt_trans g hk)) (hf _ g)
 . exact g
 . exact absurd h (C9 g hk)
structure Told where
 name:List UInt8
 value:List UInt8
 code:Nat
def bad (c:Nat):Told:=⟨[],[],c⟩
def of (l:List UInt8):Told :=
 if at_ 58 l=l.length then bad 5
 else if Ch.isToken (l.take (at_ 58 l))=false then bad 6
 else if 40<at_ 58 l then bad 4
 else if Ch.aP (l.drop (at_ 58 l+1))=false then bad 3
 else ⟨l.take (at_ 58 l),Lib.trimS (l.drop (at_ 58 l+1)) Ch.ws,0⟩
def text (n v:List UInt8):List UInt8×Nat :=
 if Ch.isToken n=false then ([],6)
 else if 40<n.length∨200<n.length+2+v.length then ([],4)
 else if Ch.aP v=false∨Lib.trimS v Ch.ws≠v then ([],3)
 else (n++[58,32]++v,0)
end Go.Proofs.YtjmndjmhjleabaaGreatDoor.Fd
namespace Go.Proofs.YtjmndjmhjleabaaGreatDoor.Ck
structure Told where
 body:List UInt8
 used:Nat
 over:Bool
 code:Nat
def size (t:List UInt8):Int×Bool:=Ch.number 16 6 (Lib.trimS (t.take (Fd.at_ 59 t)) Ch.ws)
def trail:Nat->List UInt8->Nat->Told
 | 0,_,_=>⟨[],0,false,0⟩
 | f + 1, l, n =>
   if (Ln.of l).code≠0∨(Ln.of l).ended=false then ⟨[],(Ln.of l).size,false,(Ln.of l).code⟩
   else if (Ln.of l).text=[] then ⟨[],(Ln.of l).size,true,0⟩
   else if n=16 then ⟨[],(Ln.of l).size,false,8⟩
   else if (Fd.of (Ln.of l).text).code≠0 then ⟨[],(Ln.of l).size,false,(Fd.of (Ln.of l).text).code⟩
   else let r:=trail f (l.drop (Ln.of l).size) (n+1);⟨r.body,(Ln.of l).size+r.used,r.over,r.code⟩
def go:Nat->List UInt8->Nat->Told
 | 0,_,_=>⟨[],0,false,0⟩
 | f + 1, l, n =>
   if (Ln.of l).code≠0∨(Ln.of l).ended=false then ⟨[],(Ln.of l).size,false,(Ln.of l).code⟩
   else if (size (Ln.of l).text).2=false then ⟨[],(Ln.of l).size,false,7⟩
   else if 4000<n+(size (Ln.of l).text).1.toNat then ⟨[],(Ln.of l).size,false,4⟩
   else if (size (Ln.of l).text).1.toNat=0 then
    let r:=trail (f+1) (l.drop (Ln.of l).size) 0;⟨r.body,(Ln.of l).size+r.used,r.over,r.code⟩
   else
    let k:=(size (Ln.of l).text).1.toNat
    let d:=l.drop (Ln.of l).size
    if d.length<k then ⟨d,(Ln.of l).size+d.length,false,0⟩
    else
     let e:=d.drop k
     if (Ln.of e).code≠0∨(Ln.of e).ended=false then ⟨d.take k,(Ln.of l).size+k+(Ln.of e).size,false,(Ln.of e).code⟩
     else if (Ln.of e).text≠[] then ⟨d.take k,(Ln.of l).size+k+(Ln.of e).size,false,5⟩
     else let r:=go f (e.drop (Ln.of e).size) (n+k);⟨d.take k++r.body,(Ln.of l).size+k+(Ln.of e).size+r.used,r.over,r.code⟩
def of (l:List UInt8):Told:=go (l.length+1) l 0
structure St where
 ph:Nat
 ln:Ln.St
 left:Nat
 total:Nat
 count:Nat
 code:Nat
def start:St:=⟨0,Ln.start,0,0,0,0⟩
def line (s:St)(t:List UInt8):St :=
 if s.ph=0 then
  (if (size t).2 = false then { s with code := 7 }
   else if 4000<s.total+(size t).1.toNat then { s with code:=4 }
   else if (size t).1.toNat=0 then { s with ph:=3 }
   else { s with ph:=1,left:=(size t).1.toNat,total:=s.total+(size t).1.toNat })
 else if s.ph=2 then (if t≠[] then { s with code:=5 } else { s with ph:=0 })
 else if t=[] then { s with ph:=4 }
 else if s.count=16 then { s with code:=8 }
 else if (Fd.of t).code≠0 then { s with code:=(Fd.of t).code }
 else { s with count:=s.count+1 }
def next (s:St)(c:UInt8):St :=
 if s.code≠0 then s
 else if s.ph=4 then { s with code:=18 }
 else if s.ph=1 then { s with left:=s.left-1,ph:=if s.left<=1 then 2 else 1 }
 else if (Ln.next s.ln c).code≠0 then { s with code:=(Ln.next s.ln c).code }
 else if Ln.ends s.ln c=true then line { s with ln:=Ln.start } (Ln.text s.ln c)
 else { s with ln:=Ln.next s.ln c }
def out (s:St)(c:UInt8):List UInt8:=if s.code=0∧s.ph=1 then [c] else []
end Go.Proofs.YtjmndjmhjleabaaGreatDoor.Ck
namespace Go.Proofs.YtjmndjmhjleabaaGreatDoor.Sp
structure Up where
 id:Int
 size:Int
 note:ByteArray
 bytes:List UInt8
 sent:Int
structure St where
 l:List Up
 last:Int
def new:St:=⟨[],0⟩
def used:List Up->Nat
 | []=>0
 | u::t=>u.bytes.length+used t
def place:List Up->Int->Option Nat
 | [],_=>none
 | u::t,id=>if u.id=id then some 0 else (place t id).map (·+1)
def iN (s:St)(id:Int)(f:Nat->Up->St×Nat):St×Nat :=
 match place s.l id with
 | none=>(s,10)
 | some i => match s.l[i]? with
   | none=>(s,10)
   | some u=>f i u
def create (s:St)(size:Int)(m:ByteArray):St×Int×Nat :=
 if size < -1 then (s,0,1) else if 2000<size∨100<m.size then (s,0,4) else if Ch.aP m.data.toList=false∨Lib.trimS m.data.toList Ch.ws≠m.data.toList then (s,0,3) else if 12<=s.l.length then (s,0,8)
 else (⟨s.l++[⟨s.last+1,size,m,[],0⟩],s.last+1⟩,s.last+1,0)
def append (s:St)(id off:Int)(b:List UInt8):St×Nat:=iN s id fun i u =>
 if u.sent≠0 then (s,19) else if off≠u.bytes.length then (s,17) else if 2000<u.bytes.length+b.length∨(0<=u.size∧u.size<u.bytes.length+b.length) then (s,4) else if 6000<used s.l+b.length then (s,16)
 else (⟨s.l.set i { u with bytes:=u.bytes++b },s.last⟩,0)
def declare (s:St)(id size:Int):St×Nat:=iN s id fun i u =>
 if 0<=u.size then (s,18) else if size<0 then (s,1) else if 2000<size∨size<u.bytes.length then (s,4)
 else (⟨s.l.set i { u with size:=size },s.last⟩,0)
def drop (s:St)(id:Int):St×Nat:=iN s id fun i _=>(⟨s.l.eraseIdx i,s.last⟩,0)
structure WW (last:Int)(u:Up):Prop where
 low:1<=u.id
 high:u.id<=last
 Ai:-1<=u.size
 Da:u.size<=2000
 long:u.bytes.length<=2000
 fits:0<=u.size->u.bytes.length<=u.size
 Ns:0<=u.sent
 Nt:u.sent<=2
 whole:u.sent≠0->u.size=u.bytes.length
 note:u.note.size<=100
structure Ok (s:St):Prop where
 few:s.l.length<=12
 quota:used s.l<=6000
 wU:0<=s.last
 rise:(s.l.map (·.id)).Pairwise (·<·)
 all:∀u∈s.l,WW s.last u
theorem Ok.new:Ok new:=⟨by simp[Sp.new],by simp[Sp.new,used],by simp[Sp.new],by simp[Sp.new],fun u h=>by simp[Sp.new] at h⟩
theorem lu:∀a b:List Up,used (a++b)=used a+used b
 | [],b=>by simp[used]
 | u::t,b=>by rw[List.cons_append,used,used,lu t b];omega
theorem Db:∀(l:List Up) (i:Nat) (u v:Up),l[i]? = some u->used (l.set i v)+u.bytes.length=used l+v.bytes.length
 | [],i,u,v,h=>by simp at h
 | x :: t, 0, u, v, h => by
   have h:x=u:=by simpa using h
   subst h;rw[List.set_cons_zero,used,used];omega
 | x :: t, i + 1, u, v, h => by
   have:=Db t i u v (by simpa using h);rw[List.set_cons_succ,used,used];omega
theorem wV:∀(l:List Up) (i:Nat),used (l.eraseIdx i)<=used l
 | [],i=>by simp[used]
 | x::t,0=>by rw[List.eraseIdx_cons_zero,used];omega
 | x::t,i+1=>by have:=wV t i;rw[List.eraseIdx_cons_succ,used,used];omega
theorem wW:∀(l:List Up) (id:Int) (i:Nat),place l id=some i->∃u,l[i]? = some u∧u.id=id
 | [],id,i,h=>by cases h
 | x :: t, id, i, h => by
   rw[place] at h;split at h
   . rename_i hx;injection h with h;subst h;exact⟨x,rfl,hx⟩
   . cases hp:place t id with
     | none=>rw[hp] at h;cases h
     | some j =>
       rw[hp] at h;injection h with h;obtain⟨u,h1,h2⟩:=wW t id j hp;subst h;exact⟨u,by simpa using h1,h2⟩
theorem Ok.set {s:St}(h:Ok s){i:Nat}{u v:Up}(hu:s.l[i]? = some u)(hid:v.id=u.id)(hv:WW s.last v)(hq:used s.l+v.bytes.length<=6000+u.bytes.length):Ok ⟨s.l.set i v,s.last⟩:=by
 refine⟨by simpa using h.few,?_,h.wU,?_,fun x hx=>?_⟩
 . have:=Db s.l i u v hu;show used (s.l.set i v)<=6000;omega
 . have:(s.l.set i v).map (·.id)=s.l.map (·.id):=by
    rw[List.map_set,hid];refine List.ext_getElem? fun k=>?_;rw[List.getElem?_set];split
    . rename_i e;subst e;split
      . rw[List.getElem?_map,hu];rfl
      . rename_i hk;rw[List.getElem?_eq_none (by omega)]
    . rfl
   show((s.l.set i v).map (·.id)).Pairwise (·<·);rw[this];exact h.rise
 . rcases List.mem_or_eq_of_mem_set hx with hx | hx
   . exact h.all x hx
   . subst hx;exact hv
theorem Ok.at_ {s:St}(h:Ok s){id:Int}{f:Nat->Up->St×Nat}(hf:∀i u,s.l[i]? = some u->Ok (f i u).1):Ok (iN s id f).1:=by
 unfold iN;split
 . exact h
 . split
   . exact h
   . rename_i i hi _ u hu;exact hf i u hu
theorem Ok.create {s:St}(h:Ok s)(size:Int)(m:ByteArray):Ok (create s size m).1:=by
 unfold Sp.create;split
 . exact h
 . split
   . exact h
   . split
     . exact h
     . split
       . exact h
       . rename_i h1 h2 _ h4;have hl:=h.wU;refine⟨by simp;omega,?_,by show 0<=s.last+1;omega,?_,fun u hu=>?_⟩
         . show used (s.l++[_])<=6000;rw[lu];have:=h.quota;simp[used];omega
         . show((s.l++[(⟨s.last+1,size,m,[],0⟩:Up)]).map (·.id)).Pairwise (·<·);rw[List.map_append,List.pairwise_append];refine⟨h.rise,by simp,fun a ha b hb=>?_⟩;obtain⟨u,hu,rfl⟩:=List.mem_map.1 ha;have:=(h.all u hu).high;simp at hb;subst hb;show u.id<s.last+1;omega
         . rcases List.mem_append.1 hu with hu | hu
           . have:=h.all u hu;exact⟨this.low,by have:=this.high;show u.id<=s.last+1;omega,this.Ai,this.Da,this.long,this.fits,this.Ns,this.Nt,this.whole,this.note⟩
           . rw[List.mem_singleton.1 hu];exact⟨by show 1<=s.last+1;omega,Int.le_refl _,by show -1<=size;omega,by show size<=2000;omega,by simp,fun e=>by simpa using e,by simp,by simp,fun e=>absurd rfl e,by show m.size<=100;omega⟩
theorem Ok.append {s:St}(h:Ok s)(id off:Int)(b:List UInt8):Ok (append s id off b).1:=by
 refine h.at_ fun i u hu=>?_;have hk:=h.all u (List.mem_of_getElem? hu);have hq:=h.quota;split
 . exact h
 . split
   . exact h
   . split
     . exact h
     . split
       . exact h
       . rename_i h1 h2 h3 h4;refine h.set hu rfl ⟨hk.low,hk.high,hk.Ai,hk.Da,by simp;omega,fun e=>?_,hk.Ns,hk.Nt,fun e=>absurd e (by simpa using h1),hk.note⟩ (by simp;omega);have e':0<=u.size:=e;simp only[List.length_append];omega
theorem Ok.declare {s:St}(h:Ok s)(id size:Int):Ok (declare s id size).1:=by
 refine h.at_ fun i u hu=>?_;have hk:=h.all u (List.mem_of_getElem? hu);have hq:=h.quota;split
 . exact h
 . split
   . exact h
   . split
     . exact h
     . rename_i h1 h2 h3;refine h.set hu rfl ⟨hk.low,hk.high,by show -1<=size;omega,by show size<=2000;omega,hk.long,fun _=>by show(u.bytes.length:Int)<=size;omega,hk.Ns,hk.Nt,fun e=>?_,hk.note⟩ (by show used s.l+u.bytes.length<=_;omega);have:=hk.whole e;omega
theorem Ok.drop {s:St}(h:Ok s)(id:Int):Ok (drop s id).1:=by
 refine h.at_ fun i u hu=>?_;refine⟨Nat.le_trans (List.length_eraseIdx_le ..) h.few,Nat.le_trans (wV s.l i) h.quota,h.wU,?_,fun x hx=>h.all x (List.mem_of_mem_eraseIdx hx)⟩;show((s.l.eraseIdx i).map (·.id)).Pairwise (·<·);exact h.rise.sublist ((List.eraseIdx_sublist s.l i).map _)
theorem Aj (l:List Up)(k:Nat)(h:k<l.length):used (l.take (k+1))=used (l.take k)+l[k].bytes.length:=by
 rw[List.take_succ_eq_append_getElem h,lu];simp[used]
theorem Jf (l:List Up)(k:Nat):used (l.take k)<=used l:=by
 conv=>rhs;rw[<-List.take_append_drop k l,lu]
 omega
theorem Nu (l:List Up)(k:Nat)(h:k<l.length):l[k].bytes.length<=used l:=by
 have h1:=Aj l k h;have h2:=Jf l (k+1);omega
theorem Dc:∀(l:List Up) (id:Int) (k:Nat) (h:k<l.length),l[k].id=id->(∀u∈l.take k,u.id≠id)->place l id=some k
 | x::t,id,0,_,e,_=>by rw[place,if_pos (by simpa using e)]
 | x :: t, id, k + 1, h, e, hn => by
   rw[place,if_neg (hn x (by simp)),Dc t id k (by simpa using h) (by simpa using e) (fun u hu=>hn u (by simp[hu]))];rfl
theorem Df:∀(l:List Up) (id:Int),(∀u∈l,u.id≠id)->place l id=none
 | [],_,_=>rfl
 | x :: t, id, hn => by
   rw[place,if_neg (hn x (by simp)),Df t id (fun u hu=>hn u (by simp[hu]))];rfl
theorem l5 {l:List Up}{id:Int}{i:Nat}(h:place l id=some i):i<l.length:=by
 obtain⟨u,hu,_⟩:=wW l id i h;exact(List.getElem?_eq_some_iff.1 hu).1
theorem tC {s:St}{id:Int}{f:Nat->Up->St×Nat}(h:place s.l id=none):iN s id f=(s,10):=by
 unfold iN;rw[h]
theorem tF {s:St}{id:Int}{f:Nat->Up->St×Nat}{i:Nat}(h:place s.l id=some i):iN s id f=f i (s.l[i]'(l5 h)):=by
 unfold iN;rw[h];simp only[List.getElem?_eq_getElem (l5 h)]
def pl (l:List Up)(id:Int):Int:=match place l id with
 | none=>-1
 | some i=>i
theorem q8 {l:List Up}{id:Int}(h:place l id=none):pl l id=-1:=by unfold pl;rw[h]
theorem q9 {l:List Up}{id:Int}{i:Nat}(h:place l id=some i):pl l id=i:=by unfold pl;rw[h]
theorem wX (s:St)(size:Int)(m:ByteArray):(create s size m).1.last<=s.last+1:=by
 unfold create;split
 . show s.last<=_;omega
 . split
   . show s.last<=_;omega
   . split
     . show s.last<=_;omega
     . split
       . show s.last<=_;omega
       . exact Int.le_refl _
theorem tH (s:St)(id:Int)(f:Nat->Up->St×Nat)(hf:∀i u,(f i u).1.last=s.last):(iN s id f).1.last=s.last:=by
 unfold iN;split
 . rfl
 . split
   . rfl
   . exact hf _ _
theorem Dg (s:St)(id off:Int)(b:List UInt8):(append s id off b).1.last=s.last:=tH s id _ fun i u=>by
 split
 . rfl
 . split
   . rfl
   . split
     . rfl
     . split <;> rfl
theorem BA (s:St)(id size:Int):(declare s id size).1.last=s.last:=tH s id _ fun i u=>by
 split
 . rfl
 . split
   . rfl
   . split <;> rfl
theorem J9 (s:St)(id:Int):(drop s id).1.last=s.last:=tH s id _ fun _ _=>rfl
def ru (s:St)(off:Int)(b:List UInt8)(i:Nat)(u:Up):St×Nat :=
 if u.sent≠0 then (s,19) else if off≠u.bytes.length then (s,17) else if 2000<u.bytes.length+b.length∨(0<=u.size∧u.size<u.bytes.length+b.length) then (s,4) else if 6000<used s.l+b.length then (s,16)
 else (⟨s.l.set i { u with bytes:=u.bytes++b },s.last⟩,0)
def bY (s:St)(size:Int)(i:Nat)(u:Up):St×Nat :=
 if 0<=u.size then (s,18) else if size<0 then (s,1) else if 2000<size∨size<u.bytes.length then (s,4)
 else (⟨s.l.set i { u with size:=size },s.last⟩,0)
def Nv (s:St)(i:Nat)(_:Up):St×Nat:=(⟨s.l.eraseIdx i,s.last⟩,0)
theorem Nw (s:St)(id off:Int)(b:List UInt8):append s id off b=iN s id (ru s off b):=rfl
theorem Ka (s:St)(id size:Int):declare s id size=iN s id (bY s size):=rfl
theorem Uu (s:St)(id:Int):drop s id=iN s id (Nv s):=rfl
end Go.Proofs.YtjmndjmhjleabaaGreatDoor.Sp
namespace Go.Proofs.YtjmndjmhjleabaaGreatDoor.Pm
def blank (c:UInt8):Bool:=c==32||c==9
def tok (c:UInt8):Bool:=Ch.token c.toNat
def run (p:UInt8->Bool)(l:List UInt8)(i:Nat):Nat:=((l.drop i).takeWhile p).length
theorem Dj {p:UInt8->Bool}{l:List UInt8}{i:Nat}(h:i<l.length)(hp:p l[i]=true):run p l i=1+run p l (i+1):=by
 unfold run;rw[List.drop_eq_getElem_cons h,List.takeWhile_cons,hp];simp only[if_true,List.length_cons];omega
theorem Dk {p:UInt8->Bool}{l:List UInt8}{i:Nat}(h:i<l.length)(hp:p l[i]=false):run p l i=0:=by
 unfold run;rw[List.drop_eq_getElem_cons h,List.takeWhile_cons,hp];rfl
theorem run_end (p:UInt8->Bool){l:List UInt8}{i:Nat}(h:l.length<=i):run p l i=0:=by
 unfold run;rw[List.drop_eq_nil_of_le h];rfl
theorem NA (p:UInt8->Bool)(l:List UInt8)(i:Nat)(h:i<=l.length):i+run p l i<=l.length:=by
 unfold run;have:=(List.takeWhile_prefix (l:=l.drop i) p).length_le;rw[List.length_drop] at this;omega
def blanks (l:List UInt8)(i:Nat):Nat:=i+run blank l i
def word (l:List UInt8)(i:Nat):Nat:=run tok l i
theorem Dl (p:UInt8->Bool)(l:List UInt8)(i:Nat):l.drop (i+run p l i)=(l.drop i).dropWhile p:=by
 unfold run;rw[<-List.drop_drop];generalize l.drop i=t;induction t with
 | nil=>rfl
 | cons a t ih =>
   rw[List.takeWhile_cons,List.dropWhile_cons];cases p a
   . rfl
   . simpa using ih
theorem NC (p:UInt8->Bool)(l:List UInt8)(i:Nat):(l.drop i).take (run p l i)=(l.drop i).takeWhile p:=by
 unfold run;generalize l.drop i=t;induction t with
 | nil=>rfl
 | cons a t ih =>
   rw[List.takeWhile_cons];cases p a
   . rfl
   . simpa using ih
abbrev lW:=List UInt8×List UInt8
def quo:List UInt8->List UInt8->Option (List UInt8×List UInt8)
 | _,[]=>none
 | acc,c::t=>if c=34 then some (acc,t) else if c=92 then (match t with
  | []=>none
  | d::t'=>quo (acc++[d]) t') else quo (acc++[c]) t
theorem BF (acc:List UInt8):quo acc []=none:=by unfold quo;rfl
theorem Jg (acc t:List UInt8):quo acc (34::t)=some (acc,t):=by unfold quo;rw[if_pos rfl]
theorem rz (acc:List UInt8):quo acc [92]=none:=by unfold quo;rw[if_neg (by decide),if_pos rfl]
theorem Dm (acc:List UInt8)(d:UInt8)(t:List UInt8):quo acc (92::d::t)=quo (acc++[d]) t:=by rw[quo,if_neg (by decide),if_pos rfl]
theorem Dn (acc:List UInt8)(c:UInt8)(t:List UInt8)(h1:c≠34)(h2:c≠92):quo acc (c::t)=quo (acc++[c]) t:=by rw[quo.eq_def];simp only[];rw[if_neg h1,if_neg h2]
theorem Al (n:Nat):∀(acc t v r:List UInt8),t.length<=n->quo acc t=some (v,r)->r.length<t.length∧v.length<=acc.length+t.length:=by
 induction n with
 | zero =>
   intro acc t v r h e;obtain rfl:t=[]:=List.eq_nil_of_length_eq_zero (by omega);rw[BF] at e;cases e
 | succ n ih =>
   intro acc t v r h e;cases t with
   | nil=>rw[BF] at e;cases e
   | cons c t =>
     by_cases h1:c=34
     . subst h1;rw[Jg] at e;injection e with e;injection e with e1 e2;subst e1;subst e2;simp
     . by_cases h2:c=92
       . subst h2;cases t with
         | nil=>rw[rz] at e;cases e
         | cons d t =>
           rw[Dm] at e;have:=ih _ _ _ _ (by simp at h ⊢;omega) e;simp at this ⊢;omega
       . rw[Dn _ _ _ h1 h2] at e;have:=ih _ _ _ _ (by simp at h ⊢;omega) e;simp at this ⊢;omega
def val (r:List UInt8):Nat ⊕ (List UInt8×List UInt8) :=
 if r.head? = some 34 then (match quo [] r.tail with
  | none=>.inl 14
  | some x=>.inr x)
 else if r.takeWhile tok=[] then .inl 5 else .inr (r.takeWhile tok,r.dropWhile tok)
def par (r:List UInt8):Nat ⊕ (lW×List UInt8) :=
 if r.head? = some 59 then
  let r2:=r.tail.dropWhile blank
  if r2.takeWhile tok=[] then .inl 5
  else if (r2.dropWhile tok).head? = some 61 then (match val (r2.dropWhile tok).tail with
   | .inl c=>.inl c
   | .inr x=>.inr ((Ch.lower (r2.takeWhile tok),x.1),x.2))
  else .inl 5
 else .inl 5
def mO:Nat->List UInt8->List lW->Nat ⊕ List lW
 | 0,_,acc=>.inr acc
 | n + 1, r, acc =>
   if r.dropWhile blank=[] then .inr acc
   else match par (r.dropWhile blank) with
    | .inl c=>.inl c
    | .inr x=>if acc.any (fun q=>q.1==x.1.1) then .inl 9 else if acc.length=8 then .inl 8 else mO n x.2 (acc++[x.1])
def Uv (l:List UInt8):Nat ⊕ (List UInt8×List UInt8) :=
 let r:=l.dropWhile blank
 if r.takeWhile tok=[] then .inl 5
 else if (r.dropWhile tok).head? = some 47 then
  (if (r.dropWhile tok).tail.takeWhile tok = [] then .inl 5
   else .inr (Ch.lower (r.takeWhile tok)++[47]++Ch.lower ((r.dropWhile tok).tail.takeWhile tok),(r.dropWhile tok).tail.dropWhile tok))
 else .inr (Ch.lower (r.takeWhile tok),r.dropWhile tok)
def fin (n:Nat)(wd r:List UInt8)(acc:List lW):Nat ⊕ (List UInt8×List lW):=match mO n r acc with
 | .inl c=>.inl c
 | .inr ps=>.inr (wd,ps)
def dI (l:List UInt8):Nat ⊕ (List UInt8×List lW) :=
 if Ch.aP l=false then .inl 3
 else match Uv l with
  | .inl c=>.inl c
  | .inr x=>fin (l.length+1) x.1 x.2 []
/-! ### by places in a text -/
theorem nW (l:List UInt8)(i:Nat):(l.drop i).dropWhile blank=l.drop (blanks l i):=(Dl blank l i).symm
theorem tK (l:List UInt8)(i:Nat):(l.drop i).dropWhile tok=l.drop (i+word l i):=(Dl tok l i).symm
theorem pz (l:List UInt8)(i:Nat):(l.drop i).takeWhile tok=(l.drop i).take (word l i):=(NC tok l i).symm
theorem ND (l:List UInt8)(i:Nat):(l.drop i).takeWhile tok=[]<->word l i=0:=by
 unfold word run;constructor
 . intro h;rw[h];rfl
 . intro h;exact List.eq_nil_of_length_eq_zero h
theorem tL (l:List UInt8)(i:Nat):((l.drop i).take (word l i)=[])=(word l i=0):=by
 rw[<-pz];exact propext (ND l i)
theorem pE (l:List UInt8)(i:Nat)(h:i<=l.length):blanks l i<=l.length:=NA blank l i h
theorem Am (l:List UInt8)(i:Nat):i<=blanks l i:=Nat.le_add_right _ _
theorem rA (l:List UInt8)(i:Nat)(h:i<=l.length):i+word l i<=l.length:=NA tok l i h
theorem Uw (l:List UInt8)(i:Nat):val (l.drop i) =
 if l[i]? = some 34 then (match quo [] (l.drop (i+1)) with
  | none=>.inl 14
  | some x=>.inr x)
 else if word l i=0 then .inl 5 else .inr ((l.drop i).take (word l i),l.drop (i+word l i)):=by
 unfold val;simp only[List.head?_drop,List.tail_drop,pz,tK,tL]
theorem Ux (l:List UInt8)(i:Nat):par (l.drop i) =
 if l[i]? = some 59 then
  (if word l (blanks l (i + 1)) = 0 then .inl 5
   else if l[blanks l (i+1)+word l (blanks l (i+1))]? = some 61 then (match val (l.drop (blanks l (i+1)+word l (blanks l (i+1))+1)) with
    | .inl c=>.inl c
    | .inr x=>.inr ((Ch.lower ((l.drop (blanks l (i+1))).take (word l (blanks l (i+1)))),x.1),x.2))
   else .inl 5)
 else .inl 5:=by
 unfold par;simp only[List.head?_drop,List.tail_drop,nW,tK,pz,tL]
theorem Rc (l:List UInt8)(n i:Nat)(acc:List lW)(hi:i<=l.length):mO (n+1) (l.drop i) acc =
 if blanks l i=l.length then .inr acc
 else match par (l.drop (blanks l i)) with
  | .inl c=>.inl c
  | .inr x=>if acc.any (fun q=>q.1==x.1.1) then .inl 9 else if acc.length=8 then .inl 8 else mO n x.2 (acc++[x.1]):=by
 have hb:=pE l i hi;rw[mO,nW];by_cases h:blanks l i=l.length
 . rw[if_pos h,if_pos (by rw[h,List.drop_length])]
 . rw[if_neg h,if_neg (fun e=>h (by have:=congrArg List.length e;rw[List.length_drop] at this;simp at this;omega))]
theorem Uy (l:List UInt8):Uv l =
 if word l (blanks l 0)=0 then .inl 5
 else if l[blanks l 0+word l (blanks l 0)]? = some 47 then
  (if word l (blanks l 0 + word l (blanks l 0) + 1) = 0 then .inl 5
   else .inr (Ch.lower ((l.drop (blanks l 0)).take (word l (blanks l 0)))++[47]++Ch.lower ((l.drop (blanks l 0+word l (blanks l 0)+1)).take (word l (blanks l 0+word l (blanks l 0)+1))),l.drop (blanks l 0+word l (blanks l 0)+1+word l (blanks l 0+word l (blanks l 0)+1))))
 else .inr (Ch.lower ((l.drop (blanks l 0)).take (word l (blanks l 0))),l.drop (blanks l 0+word l (blanks l 0))):=by
 unfold Uv;have e:l.dropWhile blank=l.drop (blanks l 0):=by have:=nW l 0;rwa[List.drop_zero] at this
 simp only[e,tK,List.head?_drop,List.tail_drop,pz,tL]
theorem NG (l:List UInt8)(hv:Ch.aP l=true)(i0 n0:Nat)(hi:blanks l 0=i0)(hn:word l i0=n0):dI l =
 if n0=0 then .inl 5
 else if l[i0+n0]? = some 47 then
  (if word l (i0 + n0 + 1) = 0 then .inl 5
   else fin (l.length+1) (Ch.lower ((l.drop i0).take n0)++[47]++Ch.lower ((l.drop (i0+n0+1)).take (word l (i0+n0+1)))) (l.drop (i0+n0+1+word l (i0+n0+1))) [])
 else fin (l.length+1) (Ch.lower ((l.drop i0).take n0)) (l.drop (i0+n0)) []:=by
 unfold dI;rw[if_neg (by rw[hv];simp),Uy,hi,hn];by_cases h:n0=0
 . rw[if_pos h,if_pos h]
 . rw[if_neg h,if_neg h];by_cases h47:l[i0+n0]? = some 47
   . rw[if_pos h47,if_pos h47];by_cases h2:word l (i0+n0+1)=0
     . rw[if_pos h2,if_pos h2]
     . rw[if_neg h2,if_neg h2]
   . rw[if_neg h47,if_neg h47]
theorem fin_at (l:List UInt8)(n i:Nat)(wd:List UInt8)(acc:List lW)(hi:i<=l.length):fin (n+1) wd (l.drop i) acc =
 if blanks l i=l.length then .inr (wd,acc)
 else match par (l.drop (blanks l i)) with
  | .inl c=>.inl c
  | .inr x=>if acc.any (fun q=>q.1==x.1.1) then .inl 9 else if acc.length=8 then .inl 8 else fin n wd x.2 (acc++[x.1]):=by
 unfold fin;rw[Rc l n i acc hi];by_cases h:blanks l i=l.length
 . rw[if_pos h,if_pos h]
 . rw[if_neg h,if_neg h];cases par (l.drop (blanks l i)) with
   | inl c=>rfl
   | inr x =>
     simp only[];by_cases h1:(acc.any fun q=>q.1==x.1.1)=true
     . rw[if_pos h1,if_pos h1]
     . rw[if_neg h1,if_neg h1];by_cases h2:acc.length=8
       . rw[if_pos h2,if_pos h2]
       . rw[if_neg h2,if_neg h2]
end Go.Proofs.YtjmndjmhjleabaaGreatDoor.Pm
namespace Go.Proofs.YtjmndjmhjleabaaGreatDoor.Rp
def tab:List (Int×List UInt8):=[(200,[79,75]),(201,[67,114,101,97,116,101,100]),(204,[78,111,32,67,111,110,116,101,110,116]),(400,[66,97,100,32,82,101,113,117,101,115,116]),(404,[78,111,116,32,70,111,117,110,100]),(405,[77,101,116,104,111,100,32,78,111,116,32,65,108,108,111,119,101,100]),(409,[67,111,110,102,108,105,99,116]),(412,[80,114,101,99,111,110,100,105,116,105,111,110,32,70,97,105,108,101,100]),(413,[67,111,110,116,101,110,116,32,84,111,111,32,76,97,114,103,101]),(415,[85,110,115,117,112,112,111,114,116,101,100,32,77,101,100,105,97,32,84,121,112,101]),(507,[73,110,115,117,102,102,105,99,105,101,110,116,32,83,116,111,114,97,103,101])]
def look:List (Int×List UInt8)->Int->List UInt8
 | [],_=>[]
 | p::t,n=>if p.1=n then p.2 else look t n
def word (n:Int):List UInt8:=look tab n
theorem wH:∀(l:List (Int×List UInt8)) (n:Int),(∀p∈l,p.1≠n)->look l n=[]
 | [],_,_=>rfl
 | p::t,n,hn=>by rw[look,if_neg (hn p (by simp)),wH t n (fun q hq=>hn q (by simp[hq]))]
theorem NQ {n:Int}(h:word n≠[]):200<=n∧n<=507:=by
 by_cases hn:∀p∈tab,p.1≠n
 . exact absurd (wH tab n hn) h
 . have:∃p,p∈tab∧p.1=n:=by
    apply Classical.byContradiction;intro hc;exact hn (fun p hp e=>hc ⟨p,hp,e⟩)
   obtain⟨p,hp,rfl⟩:=this;have hall:∀q∈tab,200<=q.1∧q.1<=507:=by decide
   exact hall p hp
theorem Dq (n:Int):(word n).length<=22:=by
 by_cases hn:∀p∈tab,p.1≠n
 . rw[word,wH tab n hn];decide
 . have:∃p,p∈tab∧p.1=n:=by
    apply Classical.byContradiction;intro hc;exact hn (fun p hp e=>hc ⟨p,hp,e⟩)
   obtain⟨p,hp,rfl⟩:=this;have hall:∀q∈tab,(look tab q.1).length<=22:=by decide
   exact hall p hp
def jA (p:ByteArray×ByteArray):List UInt8:=(Fd.text p.1.data.toList p.2.data.toList).1++[13,10]
def code:List (ByteArray×ByteArray)->Nat
 | []=>0
 | p::t=>if (Fd.text p.1.data.toList p.2.data.toList).2≠0 then (Fd.text p.1.data.toList p.2.data.toList).2 else code t
theorem Ap:∀(l:List (ByteArray×ByteArray)),(∀p∈l,(Fd.text p.1.data.toList p.2.data.toList).2=0)->code l=0
 | [],_=>rfl
 | p::t,h=>by rw[code,if_neg (by simpa using h p (by simp)),Ap t (fun q hq=>h q (by simp[hq]))]
theorem Dr:∀(l:List (ByteArray×ByteArray)) (i:Nat) (hi:i<l.length),(∀p∈l.take i,(Fd.text p.1.data.toList p.2.data.toList).2=0)->(Fd.text l[i].1.data.toList l[i].2.data.toList).2≠0->code l=(Fd.text l[i].1.data.toList l[i].2.data.toList).2
 | p::t,0,_,_,hc=>by rw[code,if_pos (by simpa using hc)];rfl
 | p :: t, i + 1, hi, hz, hc => by
   rw[code,if_neg (by simpa using hz p (by simp)),Dr t i (by simpa using hi) (fun q hq=>hz q (by simp[hq])) (by simpa using hc)];rfl
def h11:List UInt8:=[72,84,84,80,47,49,46,49,32]
def cl:List UInt8:=[67,111,110,116,101,110,116,45,76,101,110,103,116,104,58,32]
def first (st:Int):List UInt8:=h11++Ch.bY 8 st.toNat++[32]++word st++[13,10]
def text (st:Int)(l:List (ByteArray×ByteArray))(nv:Nat)(body:List UInt8):List UInt8×Nat :=
 if word st=[] then ([],11) else if 16<=l.length then ([],8) else if nv≠0 then ([],12) else if code l≠0 then ([],code l) else (first st++l.flatMap jA++cl++Ch.bY 8 body.length++[13,10,13,10]++body,0)
end Go.Proofs.YtjmndjmhjleabaaGreatDoor.Rp
namespace Go.Proofs.YtjmndjmhjleabaaGreatDoor.Ck
def over (s:St)(c:UInt8):Bool:=decide (s.code=0∧s.ph≠4∧(next s c).code=0∧(next s c).ph=4)
theorem Ke {s:St}(h:s.code≠0)(c:UInt8):next s c=s:=by unfold next;rw[if_pos h]
def pc (s:St):Nat:=if s.code≠0 then s.code else if s.ph=4 then 18 else 0
def nx (s:St):Nat:=if s.ph=0 then 0 else if s.ph=3 then 2 else 1
def lf (s:St):Nat:=if s.ph=1 then s.left else 0
structure Good (s:St):Prop where
 ph:s.ph<=4
 ln:Ln.Good s.ln
 lc:s.ln.code=0
 left:s.ph=1->0<s.left
 BG:s.left<=4000
 total:s.total<=4000
 count:s.count<=16
theorem Good.start:Good start:=⟨Nat.zero_le _,Ln.Good.start,rfl,fun h=>(by cases h),Nat.zero_le _,Nat.zero_le _,Nat.zero_le _⟩
theorem fO {s:St}:pc s=0<->s.code=0∧s.ph≠4:=by
 unfold pc;by_cases h:s.code=0
 . rw[if_neg (fun e=>e h)];by_cases h4:s.ph=4
   . rw[if_pos h4];simp[h4]
   . rw[if_neg h4];simp[h,h4]
 . rw[if_pos h];simp[h]
theorem Good.line {s:St}(h:Good s)(t:List UInt8):Good (line s t):=by
 obtain⟨h1,h2,h3,h4,h5,h6,h7⟩:=h;unfold Ck.line;split
 . split
   . exact⟨h1,h2,h3,h4,h5,h6,h7⟩
   . split
     . exact⟨h1,h2,h3,h4,h5,h6,h7⟩
     . split
       . exact⟨(by show 3<=4;omega),h2,h3,fun e=>(by have:(3:Nat)=1:=e;omega),h5,h6,h7⟩
       . rename_i _ a b;exact⟨(by show 1<=4;omega),h2,h3,fun _=>(by show 0<(size t).1.toNat;omega),(by show(size t).1.toNat<=4000;omega),(by show s.total+(size t).1.toNat<=4000;omega),h7⟩
 . split
   . split
     . exact⟨h1,h2,h3,h4,h5,h6,h7⟩
     . exact⟨(by show 0<=4;omega),h2,h3,fun e=>(by have:(0:Nat)=1:=e;omega),h5,h6,h7⟩
   . split
     . exact⟨(by show 4<=4;omega),h2,h3,fun e=>(by have:(4:Nat)=1:=e;omega),h5,h6,h7⟩
     . split
       . exact⟨h1,h2,h3,h4,h5,h6,h7⟩
       . split
         . exact⟨h1,h2,h3,h4,h5,h6,h7⟩
         . exact⟨h1,h2,h3,h4,h5,h6,(by show s.count+1<=16;omega)⟩
theorem Good.next {s:St}(h:Good s)(c:UInt8):Good (next s c):=by
 have hh:=h;obtain⟨h1,h2,h3,h4,h5,h6,h7⟩:=h;unfold Ck.next;split
 . exact hh
 . split
   . exact⟨h1,h2,h3,h4,h5,h6,h7⟩
   . split
     . refine⟨?_,h2,h3,fun e=>?_,(by show s.left-1<=4000;omega),h6,h7⟩
       . show(if s.left<=1 then 2 else 1)<=4;split <;> omega
       . have e':(if s.left<=1 then 2 else 1)=1:=e;show 0<s.left-1;split at e' <;> omega
     . split
       . exact⟨h1,h2,h3,h4,h5,h6,h7⟩
       . split
         . exact Good.line (s:={ s with ln:=Ln.start }) ⟨h1,Ln.Good.start,rfl,h4,h5,h6,h7⟩ _
         . exact⟨h1,Ln.o7 h2,(by rename_i a _;show(Ln.next s.ln c).code=0;omega),h4,h5,h6,h7⟩
theorem Kg {t:List UInt8}(h:∀b∈t,Ch.ws.contains b=false):Lib.trimS t Ch.ws=t:=by
 have key:∀u:List UInt8,(∀b∈u,Ch.ws.contains b=false)->u.dropWhile (Ch.ws.contains ·)=u:=by
  intro u hu;cases u with
  | nil=>rfl
  | cons a v=>rw[List.dropWhile_cons,hu a (List.mem_cons_self ..)];rfl
 unfold Lib.trimS Lib.trimLeftS Lib.trimRightS;rw[key t.reverse (fun b hb=>h b (List.mem_reverse.1 hb)),List.reverse_reverse,key t h]
theorem Rj (s:St)(c:UInt8):(out s c).length<=1:=by unfold out;split <;> simp
end Go.Proofs.YtjmndjmhjleabaaGreatDoor.Ck
namespace Go.Proofs.YtjmndjmhjleabaaGreatDoor
open Go.RowKit
theorem rF (l:List UInt8):(Lib.trimS l Ch.ws).length<=l.length:=by
 unfold Lib.trimS Lib.trimLeftS Lib.trimRightS;have h1:=(List.dropWhile_suffix (l:=(l.reverse.dropWhile (Ch.ws.contains ·)).reverse) (Ch.ws.contains ·)).length_le;have h2:=(List.dropWhile_suffix (l:=l.reverse) (Ch.ws.contains ·)).length_le;simp only[List.length_reverse] at h1 h2;omega
end Go.Proofs.YtjmndjmhjleabaaGreatDoor
namespace Go.Proofs.YtjmndjmhjleabaaGreatDoor.Fd
theorem NZ (l:List UInt8)(c:UInt8):(Lib.indexByte l c=-1∧at_ c l=l.length)∨(Lib.indexByte l c=(at_ c l:Int)∧at_ c l<l.length):=by
 by_cases h:Lib.indexByte l c=-1
 . refine Or.inl ⟨h,Q9 fun j hj e=>?_⟩;exact Lib.indexByte_none h j (by rw[List.getElem?_eq_getElem hj,e])
 . have hge:=Lib.indexByte_ge l c;obtain⟨o,ho⟩:∃o:Nat,Lib.indexByte l c=o:=⟨(Lib.indexByte l c).toNat,by omega⟩;obtain⟨h1,h2⟩:=Lib.indexByte_some ho;obtain⟨hlt,he⟩:=List.getElem?_eq_some_iff.1 h1;have:at_ c l=o:=WV hlt he fun j hj e=>h2 j hj (by rw[List.getElem?_eq_getElem (by omega),e]);refine Or.inr ⟨by rw[ho,this],by omega⟩
theorem lT (p q:UInt8->Bool)(h:∀b,q b=true->p b=true):∀l:List UInt8,(l.dropWhile q).all p=l.all p
 | []=>rfl
 | a :: t => by
   rw[List.dropWhile_cons];cases hq:q a
   . rfl
   . rw[if_pos rfl,lT p q h t,List.all_cons,h a hq];rfl
theorem Jj (b:UInt8)(h:Ch.ws.contains b=true):Ch.visible b.toNat=true:=by
 have hb:=b.toNat_lt;have:=(show ∀n:Fin 256,Ch.ws.contains n.val.toUInt8=true->Ch.visible ((n.val.toUInt8).toNat:Int)=true by decide +kernel) ⟨b.toNat,hb⟩;have e:b.toNat.toUInt8=b:=by simp
 simp only[e] at this;exact this h
theorem Ko (l:List UInt8):Ch.aP (Lib.trimS l Ch.ws)=Ch.aP l:=by
 unfold Ch.aP Lib.trimS Lib.trimLeftS Lib.trimRightS;rw[lT _ _ Jj,List.all_reverse,lT _ _ Jj,List.all_reverse]
theorem Rn (l:List UInt8):of l=if at_ 58 l=l.length then bad 5
 else if Ch.isToken (l.take (at_ 58 l))=false then bad 6
 else if 40<at_ 58 l then bad 4
 else if Ch.aP (Lib.trimS (l.drop (at_ 58 l+1)) Ch.ws)=false then bad 3
 else ⟨l.take (at_ 58 l),Lib.trimS (l.drop (at_ 58 l+1)) Ch.ws,0⟩:=by
 unfold of;rw[Ko]
theorem Aw (l:List UInt8):(of l).name.length<=l.length∧(of l).value.length<=l.length:=by
 unfold of;split
 . simp[bad]
 . split
   . simp[bad]
   . split
     . simp[bad]
     . split
       . simp[bad]
       . refine⟨List.length_take_le' ..,?_⟩;have:=rF (l.drop (at_ 58 l+1));rw[List.length_drop] at this;show(Lib.trimS (l.drop (at_ 58 l+1)) Ch.ws).length<=l.length;omega
end Go.Proofs.YtjmndjmhjleabaaGreatDoor.Fd
namespace Go.Proofs.YtjmndjmhjleabaaGreatDoor.Pm
theorem DL (p:UInt8->Bool)(l:List UInt8):(l.takeWhile p).length<=l.length:=(List.takeWhile_prefix (l:=l) p).length_le
theorem og (p:UInt8->Bool)(l:List UInt8):(l.dropWhile p).length<=l.length:=(List.dropWhile_suffix (l:=l) p).length_le
theorem Jo (p:UInt8->Bool)(l:List UInt8):(l.takeWhile p).length+(l.dropWhile p).length=l.length:=by
 rw[<-List.length_append,List.takeWhile_append_dropWhile]
theorem Rt {r v r':List UInt8}(h:val r=.inr (v,r')):v.length<=r.length∧r'.length<=r.length:=by
 unfold val at h;split at h
 . split at h
   . cases h
   . rename_i x hq;injection h with h;subst h;have:=Al _ _ _ _ _ (Nat.le_refl _) hq;rw[List.length_tail] at this;simp only[List.length_nil] at this;omega
 . split at h
   . cases h
   . injection h with h;injection h with h1 h2;subst h1;subst h2;exact⟨DL _ _,og _ _⟩
theorem Ru {r r':List UInt8}{p:lW}(h:par r=.inr (p,r')):p.1.length<=r.length∧p.2.length<=r.length∧r'.length<=r.length:=by
 unfold par at h;split at h
 . simp only[] at h;split at h
   . cases h
   . split at h
     . split at h
       . cases h
       . rename_i x hv;injection h with h;injection h with e1 e2;subst e1;subst e2;have h1:=Rt (v:=x.1) (r':=x.2) hv;rw[List.length_tail] at h1;have h2:=og tok (r.tail.dropWhile blank);have h3:=og blank r.tail;have h4:=DL tok (r.tail.dropWhile blank);rw[List.length_tail] at h3;dsimp only;rw[Ch.iM];omega
     . cases h
 . cases h
theorem DN (N:Nat):∀(n:Nat) (r:List UInt8) (acc ps:List lW),r.length<=N->(∀p∈acc,p.1.length<=N∧p.2.length<=N)->mO n r acc=.inr ps->∀p∈ps,p.1.length<=N∧p.2.length<=N
 | 0, r, acc, ps, _, ha, h => by
   rw[mO] at h;injection h with h;subst h;exact ha
 | n + 1, r, acc, ps, hr, ha, h => by
   rw[mO] at h;split at h
   . injection h with h;subst h;exact ha
   . split at h
     . cases h
     . rename_i x hx;split at h
       . cases h
       . split at h
         . cases h
         . have hl:=Ru (p:=x.1) (r':=x.2) hx;have hd:=og blank r;refine DN N n x.2 _ ps (by omega) (fun p hp=>?_) h;rw[List.mem_append,List.mem_singleton] at hp;rcases hp with hp | rfl
           . exact ha p hp
           . omega
theorem Rv {l wd r:List UInt8}(h:Uv l=.inr (wd,r)):wd.length<=l.length∧r.length<=l.length:=by
 unfold Uv at h;simp only[] at h;have hd:=og blank l;have hb:=Jo tok (l.dropWhile blank);split at h
 . cases h
 . split at h
   . rename_i h47;split at h
     . cases h
     . injection h with h;injection h with e1 e2;subst e1;subst e2;have hb2:=Jo tok ((l.dropWhile blank).dropWhile tok).tail;rw[List.length_tail] at hb2;have hp:0<((l.dropWhile blank).dropWhile tok).length:=by
        cases hx:(l.dropWhile blank).dropWhile tok with
        | nil=>rw[hx] at h47;cases h47
        | cons _ _=>simp
       simp only[List.length_append,Ch.iM,List.length_singleton];omega
   . injection h with h;injection h with e1 e2;subst e1;subst e2;rw[Ch.iM];omega
theorem tX {l wd:List UInt8}{ps:List lW}(h:dI l=.inr (wd,ps)):wd.length<=l.length∧∀p∈ps,p.1.length<=l.length∧p.2.length<=l.length:=by
 unfold dI at h;split at h
 . cases h
 . split at h
   . cases h
   . rename_i x hx;unfold fin at h;split at h
     . cases h
     . rename_i ps' hp;injection h with h;injection h with e1 e2;subst e1;subst e2;obtain⟨g1,g2⟩:=Rv (wd:=x.1) (r:=x.2) hx;exact⟨g1,DN l.length _ _ _ _ g2 (fun p hp=>by cases hp) hp⟩
end Go.Proofs.YtjmndjmhjleabaaGreatDoor.Pm
namespace Go.Proofs.YtjmndjmhjleabaaGreatDoor
namespace Ck
section
section
section
section
section
section
section
end
end
end
end
end
end
section
section
section
end
end
end
end
end Ck
theorem DZ (t:List UInt8):0<=(Ck.size t).1∧(Ck.size t).1<68719476736:=by
 unfold Ck.size;generalize Lib.trimS (t.take (Fd.at_ 59 t)) Ch.ws=l;unfold Ch.number;split
 . exact⟨Int.le_refl _,by decide⟩
 . split
   . rename_i h1 h2;have hl:¬(6:Int)<l.length:=fun e=>h1 (Or.inr e);exact Ch.lq 16 (by omega) (by omega) l h2 (by omega)
   . exact⟨Int.le_refl _,by decide⟩
end Go.Proofs.YtjmndjmhjleabaaGreatDoor