/- Small texts, one behind the other: PlainA, PlainL, PlainN, PlainLT, PlainB, PlainF, PlainCK, PlainUA, PlainUB, PlainP, PlainM, PlainRp, PlainCL, PlainCG, PlainCB, PlainCW, PlainT, PlainG, PlainMT, PlainMB, PlainMD, PlainCO. -/
import Derived.Lib.SlTrimSet
import Derived.Lib.IndexLaws
import Derived.Lib.Strings
import Derived.Below
namespace Go.Proofs.YtjmndjmhjleabaaGreatDoor.Ch
def digit (c:Int):Bool:=decide (48≤c)&&decide (c≤57)
def capital (c:Int):Bool:=decide (65≤c)&&decide (c≤90)
def letter (c:Int):Bool:=(decide (97≤c)&&decide (c≤122)) || capital c
def visible (c:Int):Bool:=c==9 || (decide (32≤c)&&c != 127)
def marks:List UInt8:=[33,35,36,37,38,39,42,43,45,46,94,95,96,124,126]
def token (c:Int):Bool:=digit c || letter c || decide (0≤Lib.indexByte marks c.toNat.toUInt8)
def oneOf (c:Int) (l:List UInt8):Bool:=l.any fun b=>(b.toNat:Int)==c
def hex (c:Int):Int:=if digit c then c - 48 else if decide (97≤c)&&decide (c≤102) then c - 87 else if decide (65≤c)&&decide (c≤70) then c - 55 else -1
theorem EG {p:Int→Bool} (h:(List.range 256).all (fun n=>p (n:Int))=true) (c:Int) (h0:0≤c) (h1:c≤255):p c=true:=by
 obtain ⟨n,rfl⟩:=Int.eq_ofNat_of_zero_le h0;exact List.all_eq_true.1 h n (List.mem_range.2 (by omega))
def tokens:List UInt8:=[48,49,50,51,52,53,54,55,56,57,65,66,67,68,69,70,71,72,73,74,75,76,77,78,79,80,81,82,83,84,85,86,87,88,89,90,97,98,99,100,101,102,103,104,105,106,107,108,109,110,111,112,113,114,115,116,117,118,119,120,121,122,33,35,36,37,38,39,42,43,45,46,94,95,96,124,126]
theorem EH (c:Int) (h0:0≤c) (h1:c≤255):oneOf c tokens=token c:=by
 have:=EG (p:=fun c=>oneOf c tokens==token c) (by decide +kernel) c h0 h1;simpa using this
def isToken (l:List UInt8):Bool:=!l.isEmpty&&l.all fun b=>token b.toNat
def zu (l:List UInt8):Bool:=l.all fun b=>token b.toNat
def aM (l:List UInt8):Bool:=l.all fun b=>visible b.toNat
theorem NT (c:Int) (h0:0≤c) (h1:c≤255):-1≤hex c∧hex c≤15:=by
 have:=EG (p:=fun c=>decide (-1≤hex c∧hex c≤15)) (by decide +kernel) c h0 h1;simpa using this
theorem JW (c:Int) (l:List UInt8) (b:UInt8):oneOf c (l++[b])=(oneOf c l || ((b.toNat:Int)==c)):=by
 simp [oneOf]
theorem bU (s:ByteArray) (k:Nat) (h:k<s.size):s.data.toList.take (k+1)=s.data.toList.take k++[s[k]]:=by
 rw [List.take_succ_eq_append_getElem (by simpa using h)];rfl
theorem fI (s:ByteArray) (k:Nat) (h:s.size≤k):s.data.toList.take k=s.data.toList :=
 List.take_of_length_le (by simpa using h)
theorem Gd (p:UInt8→Bool) (s:ByteArray) (k:Nat) (h:k<s.size) (hp:p s[k]=true):s.data.toList.any p=true:=by
 rw [List.any_eq_true];exact ⟨s[k],by
  have:s[k]=s.data.toList[k]'(by simpa using h):=rfl;rw [this];exact List.getElem_mem _,hp⟩
theorem gX (p:UInt8→Bool) (s:ByteArray) (k:Nat) (h:k<s.size) (hp:p s[k]=false):s.data.toList.all p=false:=by
 rw [Bool.eq_false_iff,Ne,List.all_eq_true];intro hall;have:=hall s[k] (by
  have:s[k]=s.data.toList[k]'(by simpa using h):=rfl;rw [this];exact List.getElem_mem _)
 rw [this] at hp;cases hp
def sF (base:Int) (b:UInt8):Bool:=decide (0≤hex b.toNat)&&decide (hex b.toNat<base)
def numOf (base:Int) (l:List UInt8):Int:=l.foldl (fun n b=>n*base+hex b.toNat) 0
def number (base most:Int) (l:List UInt8):Int×Bool :=
 if l=[]∨most<l.length then (0,false) else if l.all (sF base) then (numOf base l,true) else (0,false)
theorem tF (base:Int) (l:List UInt8) (b:UInt8):numOf base (l++[b])=numOf base l*base+hex b.toNat:=by
 simp [numOf]
theorem l9 (b:UInt8):-1≤hex b.toNat∧hex b.toNat≤15:=NT _ (by omega) (by have:=b.toNat_lt;omega)
theorem Dc (base:Int) (hb0:0≤base) (hb1:base≤16):∀ (l:List UInt8) (n:Int) (B:Nat),0≤n→n<16 ^ B→l.all (sF base)=true →
 0≤l.foldl (fun n b=>n*base+hex b.toNat) n∧l.foldl (fun n b=>n*base+hex b.toNat) n<16 ^ (B+l.length)
 | [],n,B,h0,h1,_=>⟨h0,h1⟩
 | b :: l, n, B, h0, h1, hl => by
   rw [List.all_cons,Bool.and_eq_true] at hl;have hx:=l9 b;have hd:0≤hex b.toNat:=by
    have:=hl.1;unfold sF at this;rw [Bool.and_eq_true] at this;exact of_decide_eq_true this.1
   have p0:0≤n*base:=Int.mul_nonneg h0 hb0;have p1:n*base≤n*16:=Int.mul_le_mul_of_nonneg_left hb1 h0;have e:(16:Int) ^ (B+1)=16 ^ B*16:=Int.pow_succ ..;have:=Dc base hb0 hb1 l (n*base+hex b.toNat) (B+1) (by omega) (by omega) hl.2;rw [List.foldl_cons,List.length_cons,show B+(l.length+1)=B+1+l.length by omega];exact this
theorem gY (base:Int) (hb0:0≤base) (hb1:base≤16) (l:List UInt8) (hl:l.all (sF base)=true) (h9:l.length≤9):0≤numOf base l∧numOf base l<68719476736:=by
 have h:=Dc base hb0 hb1 l 0 0 (Int.le_refl _) (by decide) hl;have:(16:Int) ^ (0+l.length)≤16 ^ 9:=by
  have:(16:Nat) ^ (0+l.length)≤16 ^ 9:=Nat.pow_le_pow_right (by decide) (by omega);exact_mod_cast this
 have e:(16:Int) ^ 9=68719476736:=by decide
 exact ⟨h.1,by have:=h.2;unfold numOf;omega⟩
theorem mg (p:UInt8→Bool) (l:List UInt8) (b:UInt8):(l++[b]).all p=(l.all p&&p b):=by simp
theorem fV (base most:Int) (l:List UInt8) (h:l=[]∨most<l.length):number base most l=(0,false):=by unfold number;rw [if_pos h]
theorem nU (base most:Int) (l:List UInt8) (h:l.all (sF base)=false):number base most l=(0,false):=by
 unfold number;split
 · rfl
 · rw [h];rfl
theorem mh (base most:Int) (l:List UInt8) (h1:l≠[]) (h2:¬ most<l.length) (h:l.all (sF base)=true):number base most l=(numOf base l,true):=by
 unfold number;rw [if_neg (by simp [h1,h2]),h];rfl
theorem aQ (s:ByteArray):s.data.toList.length=s.size:=by simp
theorem ne_nil (s:ByteArray) (h:0<s.size):s.data.toList≠[]:=by
 intro e;have:=aQ s;rw [e] at this;simp at this;omega
theorem empty_eq (s:ByteArray) (h:s.size=0):s=⟨#[]⟩:=by
 apply ByteArray.ext;exact Array.eq_empty_of_size_eq_zero h
theorem gJ (s:ByteArray) (h:0<s.size):s.toList.isEmpty=false:=by
 rw [Lib.toList_data];cases h':s.data.toList with
 | nil=>exact absurd h' (ne_nil s h)
 | cons _ _=>rfl
def pJ (b:UInt8) (j:Nat):UInt8:=if 65≤b.toNat∧b.toNat<65+j then b+32 else b
def kZ (b:UInt8):UInt8:=pJ b 26
def lower (l:List UInt8):List UInt8:=l.map kZ
theorem MI (j:Nat) (h:j<26):((⟨#[65,66,67,68,69,70,71,72,73,74,75,76,77,78,79,80,81,82,83,84,85,86,87,88,89,90]⟩:ByteArray)[j]'h).toNat=65+j :=
 (show ∀ j:Fin 26,((⟨#[65,66,67,68,69,70,71,72,73,74,75,76,77,78,79,80,81,82,83,84,85,86,87,88,89,90]⟩:ByteArray)[j.val]'j.isLt).toNat=65+j.val by decide +kernel) ⟨j,h⟩
theorem VK (j:Nat) (h:j<26):((⟨#[97,98,99,100,101,102,103,104,105,106,107,108,109,110,111,112,113,114,115,116,117,118,119,120,121,122]⟩:ByteArray).extract j (j+1)).data.toList=[((97+j).toUInt8)] :=
 (show ∀ j:Fin 26,((⟨#[97,98,99,100,101,102,103,104,105,106,107,108,109,110,111,112,113,114,115,116,117,118,119,120,121,122]⟩:ByteArray).extract j.val (j.val+1)).data.toList=[((97+j.val).toUInt8)] by decide +kernel) ⟨j,h⟩
theorem NU (b:UInt8) (j:Nat) (h:j<26) (he:(((((⟨#[65,66,67,68,69,70,71,72,73,74,75,76,77,78,79,80,81,82,83,84,85,86,87,88,89,90]⟩:ByteArray)[j]'h).toNat:Nat):Int)==(b.toNat:Int))=true) :
 ((⟨#[97,98,99,100,101,102,103,104,105,106,107,108,109,110,111,112,113,114,115,116,117,118,119,120,121,122]⟩:ByteArray).extract j (j+1)).data.toList=[pJ b (j+1)]:=by
 rw [MI j h] at he;have hb:b.toNat=65+j:=by have:=beq_iff_eq.1 he;omega
 rw [VK j h];unfold pJ;rw [if_pos (by omega)];have:(97+j).toUInt8=b+32:=by
  apply UInt8.toNat_inj.1;rw [UInt8.toNat_add,hb];simp;omega
 rw [this]
theorem JX (b:UInt8) (j:Nat) (h:j<26) (he:(((((⟨#[65,66,67,68,69,70,71,72,73,74,75,76,77,78,79,80,81,82,83,84,85,86,87,88,89,90]⟩:ByteArray)[j]'h).toNat:Nat):Int)==(b.toNat:Int))=false) :
 pJ b (j+1)=pJ b j:=by
 rw [MI j h] at he;have hb:¬ b.toNat=65+j:=by have:=beq_eq_false_iff_ne.1 he;omega
 unfold pJ;by_cases hc:65≤b.toNat∧b.toNat<65+j
 · rw [if_pos hc,if_pos (by omega)]
 · rw [if_neg hc,if_neg (by omega)]
theorem JY (b:UInt8):pJ b 0=b:=by unfold pJ;rw [if_neg (by omega)]
theorem qg (s:ByteArray) (k:Nat) (h:k<s.size):(s.extract k (k+1)).data.toList=[s[k]]:=by
 rw [Lib.extract_data,show k+1 - k=1 by omega,List.drop_eq_getElem_cons (by simpa using h)];rfl
theorem JZ (l:List UInt8) (b:UInt8):lower (l++[b])=lower l++[kZ b]:=by simp [lower]
theorem iJ (l:List UInt8):(lower l).length=l.length:=by simp [lower]
theorem data_append (a b:ByteArray):(a++b).data.toList=a.data.toList++b.data.toList:=by simp
theorem str_eq {x:ByteArray} {l:List UInt8} (h:x.data.toList=l):x=⟨l.toArray⟩:=by
 obtain ⟨⟨m⟩⟩:=x;simp only at h;rw [h]
theorem size_of_list {x:ByteArray} {l:List UInt8} (h:x.data.toList=l):x.size=l.length:=by rw [←h,aQ]
def yM:List UInt8:=[48,49,50,51,52,53,54,55,56,57,97,98,99,100,101,102]
theorem VL (j:Nat) (h:j<16):((⟨#[48,49,50,51,52,53,54,55,56,57,97,98,99,100,101,102]⟩:ByteArray).extract j (j+1)).data.toList=[yM.getD j 0] :=
 (show ∀ j:Fin 16,((⟨#[48,49,50,51,52,53,54,55,56,57,97,98,99,100,101,102]⟩:ByteArray).extract j.val (j.val+1)).data.toList=[yM.getD j.val 0] by decide +kernel) ⟨j,h⟩
theorem Rs (b:UInt8) (j:Nat) (h:j<16) (he:kZ b=yM.getD j 0):hex b.toNat=j:=by
 have hb:=b.toNat_lt;have:=(show ∀ (n:Fin 256) (j:Fin 16),kZ n.val.toUInt8=yM.getD j.val 0→hex ((n.val.toUInt8).toNat:Int)=(j.val:Int) by decide +kernel) ⟨b.toNat,hb⟩ ⟨j,h⟩;have e:b.toNat.toUInt8=b:=by simp
 simp only [e] at this;exact this he
theorem NV (b:UInt8) (he:∀ j,j<16→kZ b≠yM.getD j 0):hex b.toNat=-1:=by
 have hb:=b.toNat_lt;have:=(show ∀ (n:Fin 256),(∀ j:Fin 16,kZ n.val.toUInt8≠yM.getD j.val 0)→hex ((n.val.toUInt8).toNat:Int)=-1 by decide +kernel) ⟨b.toNat,hb⟩;have e:b.toNat.toUInt8=b:=by simp
 simp only [e] at this;exact this fun j=>he j.val j.isLt
theorem Rt (b:UInt8) (j:Nat) (h:j<16):([kZ b]==((⟨#[48,49,50,51,52,53,54,55,56,57,97,98,99,100,101,102]⟩:ByteArray).extract j (j+1)).toList)=decide (kZ b=yM.getD j 0):=by
 rw [Lib.toList_data,VL j h];by_cases e:kZ b=yM.getD j 0
 · rw [e];simp
 · rw [decide_eq_false e];exact beq_eq_false_iff_ne.2 (fun h=>e (by simpa using h))
theorem J2 (c:Int):oneOf c [48,49,50,51,52,53,54,55,56,57]=digit c:=by
 unfold oneOf digit;simp only [List.any_cons,List.any_nil,Bool.or_false];by_cases h:48≤c∧c≤57
 · rw [decide_eq_true h.1,decide_eq_true h.2];have:c=48∨c=49∨c=50∨c=51∨c=52∨c=53∨c=54∨c=55∨c=56∨c=57:=by omega
   rcases this with rfl | rfl | rfl | rfl | rfl | rfl | rfl | rfl | rfl | rfl <;> decide
 · have e:(decide (48≤c)&&decide (c≤57))=false:=by
    by_cases h1:48≤c
    · rw [decide_eq_false (show ¬ c≤57 from fun h2=>h ⟨h1,h2⟩)];simp
    · rw [decide_eq_false h1];rfl
   rw [e];have hn:∀ n:Nat,48≤n→n≤57→((n:Int)==c)=false:=fun n a b=>beq_eq_false_iff_ne.2 (by omega);simp only [Bool.or_eq_false_iff];refine ⟨?_,?_,?_,?_,?_,?_,?_,?_,?_,?_⟩ <;> exact hn _ (by decide) (by decide)
theorem abq (b:UInt8):sF 10 b=digit b.toNat:=by
 have hb:=b.toNat_lt;have:=EG (p:=fun c=>(decide (0≤hex c)&&decide (hex c<10))==digit c) (by decide +kernel) b.toNat (by omega) (by omega);exact beq_iff_eq.1 this
theorem Df (b:UInt8):sF 16 b=decide (0≤hex b.toNat):=by
 have:=l9 b;unfold sF;rw [decide_eq_true (show hex b.toNat<16 by omega)];simp
end Go.Proofs.YtjmndjmhjleabaaGreatDoor.Ch
namespace Go.Proofs.YtjmndjmhjleabaaGreatDoor.Ln
structure Told where
 text:List UInt8
 size:Nat
 ended:Bool
 code:Nat
def open_:Told:=⟨[],0,false,0⟩
def fails (i c:Nat):Told:=⟨[],i,false,c⟩
def go (l:List UInt8):Nat→List UInt8→Told
 | _,[]=>open_
 | i, c :: t =>
   if c=13 then
    match t with
    | []=>open_
    | d::_=>if d=10 then ⟨l.take i,i+2,true,0⟩ else fails (i+2) 2
   else if c=10 then fails (i+1) 2
   else if Ch.visible c.toNat=false then fails (i+1) 3
   else if i=200 then fails (i+1) 4
   else go l (i+1) t
def of (l:List UInt8):Told:=go l 0 l
theorem zw (l:List UInt8) (i:Nat) (h:l.length≤i):go l i (l.drop i)=open_:=by
 rw [List.drop_eq_nil_of_le h];rfl
theorem Gf (l:List UInt8) (i:Nat) (h:i<l.length):go l i (l.drop i) =
 if l[i]=13 then
  (if h2:i+1<l.length then (if l[i+1]=10 then ⟨l.take i,i+2,true,0⟩ else fails (i+2) 2) else open_)
 else if l[i]=10 then fails (i+1) 2
 else if Ch.visible l[i].toNat=false then fails (i+1) 3
 else if i=200 then fails (i+1) 4
 else go l (i+1) (l.drop (i+1)):=by
 rw [List.drop_eq_getElem_cons h];show (if l[i]=13 then _ else _)=_;by_cases gV:l[i]=13
 · rw [if_pos gV,if_pos gV];by_cases h2:i+1<l.length
   · rw [dif_pos h2,List.drop_eq_getElem_cons h2]
   · rw [dif_neg h2,List.drop_eq_nil_of_le (by omega)]
 · rw [if_neg gV,if_neg gV]
structure St where
 line:List UInt8
 ending:Bool
 code:Nat
def start:St:=⟨[],false,0⟩
def fault (s:St) (c:UInt8):Nat :=
 if s.ending=(c==10) then (if c=13∨c=10 then 0 else if Ch.visible c.toNat=false then 3 else if 200≤s.line.length then 4 else 0) else 2
def next (s:St) (c:UInt8):St :=
 if s.code≠0 then s
 else if fault s c≠0 then { s with code:=fault s c }
 else if c=10 then ⟨[],false,0⟩
 else if c=13 then { s with ending:=true }
 else { s with line:=s.line++[c] }
def text (s:St) (c:UInt8):List UInt8:=if s.code=0∧fault s c=0∧c=10 then s.line else []
def ends (s:St) (c:UInt8):Bool:=decide (s.code=0∧fault s c=0∧c=10)
def begun (s:St):Bool:=s.ending || decide (0<s.line.length)
def came (s:St):List UInt8:=s.line++(if s.ending then [13] else [])
structure Good (s:St):Prop where
 seen:∀ b∈s.line,Ch.visible b.toNat=true
 short:s.line.length≤200
theorem Good.start:Good start:=⟨fun b h=>by simp [Ln.start] at h,by simp [Ln.start]⟩
theorem X6:Ch.visible (13:UInt8).toNat=false:=by decide
theorem abr:Ch.visible (10:UInt8).toNat=false:=by decide
theorem nV {s:St} {c:UInt8} (h:Good s):Good (next s c):=by
 unfold next;split
 · exact h
 · split
   · exact ⟨h.seen,h.short⟩
   · split
     · exact Good.start
     · split
       · exact ⟨h.seen,h.short⟩
       · rename_i _ hf h10 gV;have hf:fault s c=0:=by omega
         unfold fault at hf;split at hf
         · split at hf
           · rename_i hc;rcases hc with e | e <;> contradiction
           · split at hf
             · omega
             · split at hf
               · omega
               · rename_i _ _ hv hl;refine ⟨fun b hb=>?_,by simp;omega⟩;simp at hb;rcases hb with hb | rfl
                 · exact h.seen b hb
                 · cases hh:Ch.visible (b.toNat:Int)
                   · exact absurd hh hv
                   · rfl
         · omega
theorem go_skip (l:List UInt8) (n:Nat) (hn:n≤l.length) (h2:n≤200) (hv:∀ b∈l.take n,Ch.visible b.toNat=true):of l=go l n (l.drop n):=by
 induction n with
 | zero=>rfl
 | succ n ih =>
   have hlt:n<l.length:=by omega
   have hm:l[n]∈l.take (n+1):=by
    rw [List.take_succ_eq_append_getElem hlt];exact List.mem_append_right _ (List.mem_singleton.2 rfl)
   have hx:=hv _ hm;rw [ih (by omega) (by omega) (fun b hb=>hv b (by
    rw [List.take_succ_eq_append_getElem hlt];exact List.mem_append_left _ hb)),Gf l n hlt]
   rw [if_neg (fun e=>by rw [e,X6] at hx;cases hx),if_neg (fun e=>by rw [e,abr] at hx;cases hx),if_neg (by rw [hx];simp),if_neg (by omega)]
theorem EI {s:St} (h:Good s) (hc:s.code=0) (c:UInt8) :
 (of (came s++[c])).text=text s c∧(of (came s++[c])).ended=ends s c∧(of (came s++[c])).code=(next s c).code∧(ends s c=true→(of (came s++[c])).size=(came s).length+1):=by
 have aki:=X6;have e:of (came s++[c])=go (came s++[c]) s.line.length ((came s++[c]).drop s.line.length):=by
  refine go_skip _ _ (by unfold came;simp) h.short (fun b hb=>?_);unfold came at hb;rw [List.append_assoc,List.take_left] at hb;exact h.seen b hb
 rw [e];cases he:s.ending
 · have e2:came s++[c]=s.line++[c]:=by unfold came;rw [he];simp
   rw [e2,List.drop_left];have e3:came s=s.line:=by unfold came;rw [he];simp
   rw [e3];show _∧_∧_∧_;unfold go;by_cases gV:c=13
   · subst gV;have hf:fault s 13=0:=by unfold fault;rw [he];rfl
     simp [text,ends,next,hf,hc,open_]
   · rw [if_neg gV];by_cases h10:c=10
     · subst h10;have hf:fault s 10=2:=by unfold fault;rw [he];rfl
       simp [text,ends,next,hf,hc,fails]
     · rw [if_neg h10];have hq:s.ending=(c==10):=by rw [he];exact (beq_eq_false_iff_ne.2 h10).symm
       have hno:¬ (c=13∨c=10):=by rintro (e | e) <;> contradiction
       by_cases hv:Ch.visible c.toNat=false
       · have hf:fault s c=3:=by unfold fault;rw [if_pos hq,if_neg hno,if_pos hv]
         rw [if_pos hv];simp [text,ends,next,hf,hc,fails]
       · rw [if_neg hv];by_cases h2:s.line.length=200
         · have hf:fault s c=4:=by unfold fault;rw [if_pos hq,if_neg hno,if_neg hv,if_pos (by omega)]
           rw [if_pos h2];simp [text,ends,next,hf,hc,fails]
         · have hs:=h.short;have hf:fault s c=0:=by unfold fault;rw [if_pos hq,if_neg hno,if_neg hv,if_neg (by omega)]
           rw [if_neg h2];simp [text,ends,next,hf,hc,h10,gV,go,open_]
 · have e2:came s++[c]=s.line++[13,c]:=by unfold came;rw [he];simp
   have e3:(came s).length=s.line.length+1:=by unfold came;rw [he];simp
   rw [e2,List.drop_left,e3];unfold go;rw [if_pos rfl];by_cases h10:c=10
   · subst h10;have hf:fault s 10=0:=by unfold fault;rw [he];rfl
     simp [text,ends,next,hf,hc]
   · have hf:fault s c=2:=by
      unfold fault;rw [he,if_neg (by rw [beq_eq_false_iff_ne.2 h10];simp)]
     simp [text,ends,next,hf,hc,h10,fails]
theorem NW {s:St} {c:UInt8} (hc:s.code=0) (hn:(next s c).code=0):came (next s c)=if ends s c then [] else came s++[c]:=by
 unfold next at hn ⊢;rw [if_neg (by omega)] at hn ⊢;by_cases hf:fault s c=0
 · rw [if_neg (by omega)] at hn ⊢;by_cases h10:c=10
   · subst h10;have:ends s 10=true:=by unfold ends;simp [hc,hf]
     rw [this];rfl
   · have hE:ends s c=false:=by unfold ends;simp [h10]
     rw [if_neg h10,hE];have he:s.ending=false:=by
      unfold fault at hf;cases hh:s.ending
      · rfl
      · rw [hh,if_neg (by rw [beq_eq_false_iff_ne.2 h10];simp)] at hf;omega
     by_cases gV:c=13
     · subst gV;rw [if_pos rfl];unfold came;rw [he];simp
     · rw [if_neg gV];unfold came;simp [he]
 · rw [if_pos hf] at hn;exact absurd hn hf
theorem J3 (s:St):begun s=decide (0<(came s).length):=by
 unfold begun came;cases s.ending <;> simp
theorem Dg {s:St} {c:UInt8} (h:(next s c).code≠0):ends s c=false:=by
 cases hE:ends s c
 · rfl
 · unfold ends at hE;rw [decide_eq_true_eq] at hE;obtain ⟨h0,hf,rfl⟩:=hE;exact absurd (by unfold next;rw [if_neg (by omega),hf];rfl) h
theorem again {s:St} (c:UInt8) (h:s.code≠0):next s c=s∧text s c=[]∧ends s c=false:=by
 refine ⟨by unfold next;rw [if_pos h],by unfold text;rw [if_neg (fun e=>h e.1)],by unfold ends;simp [h]⟩
theorem go_size (l:List UInt8):∀ (t:List UInt8) (i:Nat),(go l i t).size=0∨i<(go l i t).size
 | [],i=>Or.inl rfl
 | c :: t, i => by
   unfold go;split
   · split
     · exact Or.inl rfl
     · split
       · right;show i<i+2;omega
       · right;show i<i+2;omega
   · split
     · right;show i<i+1;omega
     · split
       · right;show i<i+1;omega
       · split
         · right;show i<i+1;omega
         · rcases go_size l t (i+1) with h | h
           · exact Or.inl h
           · right;omega
theorem abt (l:List UInt8):∀ (d i:Nat),l.length - i=d→i≤l.length→(go l i (l.drop i)).size≤l.length:=by
 intro d;induction d with
 | zero =>
   intro i hd hi;rw [zw l i (by omega)];exact Nat.zero_le _
 | succ d ih =>
   intro i hd hi;have hlt:i<l.length:=by omega
   rw [Gf l i hlt];split
   · split
     · split
       · show i+2≤_;omega
       · show i+2≤_;omega
     · exact Nat.zero_le _
   · split
     · show i+1≤_;omega
     · split
       · show i+1≤_;omega
       · split
         · show i+1≤_;omega
         · exact ih (i+1) (by omega) (by omega)
theorem of_le (l:List UInt8):(of l).size≤l.length:=abt l _ 0 rfl (Nat.zero_le _)
theorem VN (l:List UInt8) (k:Nat) (hk:k≤l.length):∀ (d i:Nat),l.length - i=d→i≤k →
 go (l.take k) i ((l.take k).drop i)=if 0<(go l i (l.drop i)).size∧(go l i (l.drop i)).size≤k then go l i (l.drop i) else open_:=by
 intro d;induction d with
 | zero =>
   intro i hd hi;rw [zw l i (by omega),zw (l.take k) i (by rw [List.length_take];omega),if_neg (fun h=>by have:=h.1;simp [open_] at this)]
 | succ d ih =>
   intro i hd hi;have hlt:i<l.length:=by omega
   by_cases hik:i=k
   · subst hik;rw [zw (l.take i) i (by rw [List.length_take];omega)];rw [if_neg];rintro ⟨h1,h2⟩;rcases go_size l (l.drop i) i with h | h <;> omega
   · have hlk:(l.take k).length=k:=by rw [List.length_take];omega
     have hi2:i<(l.take k).length:=by omega
     have e0:(l.take k)[i]=l[i]:=by simp
     have et:(l.take k).take i=l.take i:=by rw [List.take_take,Nat.min_eq_left (by omega)]
     rw [Gf (l.take k) i hi2,Gf l i hlt,e0];by_cases gV:l[i]=13
     · rw [if_pos gV,if_pos gV];by_cases h2:i+1<k
       · have h2l:i+1<(l.take k).length:=by omega
         have VO:i+1<l.length:=by omega
         have e1:(l.take k)[i+1]=l[i+1]:=by simp
         rw [dif_pos h2l,dif_pos VO,e1,et];by_cases h10:l[i+1]=10
         · rw [if_pos h10,if_pos ⟨by show 0<i+2;omega,by show i+2≤k;omega⟩]
         · rw [if_neg h10,if_pos ⟨by show 0<i+2;omega,by show i+2≤k;omega⟩]
       · rw [dif_neg (show ¬ i+1<(l.take k).length by omega)];by_cases VO:i+1<l.length
         · rw [dif_pos VO];by_cases h10:l[i+1]=10
           · rw [if_pos h10,if_neg (fun h=>by have:i+2≤k:=h.2;omega)]
           · rw [if_neg h10,if_neg (fun h=>by have:i+2≤k:=h.2;omega)]
         · rw [dif_neg VO,if_neg (fun h=>by have:=h.1;simp [open_] at this)]
     · rw [if_neg gV,if_neg gV];by_cases h10:l[i]=10
       · rw [if_pos h10,if_pos h10,if_pos ⟨by show 0<i+1;omega,by show i+1≤k;omega⟩]
       · rw [if_neg h10,if_neg h10];by_cases hv:Ch.visible l[i].toNat=false
         · rw [if_pos hv,if_pos hv,if_pos ⟨by show 0<i+1;omega,by show i+1≤k;omega⟩]
         · rw [if_neg hv,if_neg hv];by_cases h2:i=200
           · rw [if_pos h2,if_pos h2,if_pos ⟨by show 0<i+1;omega,by show i+1≤k;omega⟩]
           · rw [if_neg h2,if_neg h2];exact ih (i+1) (by omega) (by omega)
theorem EJ (l:List UInt8) (k:Nat) (hk:k≤l.length):of (l.take k)=if 0<(of l).size∧(of l).size≤k then of l else open_:=VN l k hk _ 0 rfl (Nat.zero_le _)
def fold (s:St) (l:List UInt8):St:=l.foldl next s
theorem jM (s:St) (l:List UInt8) (c:UInt8):fold s (l++[c])=next (fold s l) c:=by simp [fold]
theorem q9 (l:List UInt8):∀ j,j≤l.length→((of l).size=0∨j<(of l).size)→Good (fold start (l.take j))∧(fold start (l.take j)).code=0∧came (fold start (l.take j))=l.take j
 | 0,_,_=>⟨Good.start,rfl,rfl⟩
 | j + 1, hj, hs => by
   obtain ⟨hg,hc,hcm⟩:=q9 l j (by omega) (by omega);have hlt:j<l.length:=by omega
   have e:l.take (j+1)=l.take j++[l[j]]:=List.take_succ_eq_append_getElem hlt;have hoc:=EI hg hc l[j];rw [hcm,←e,EJ l (j+1) hj,if_neg (by omega)] at hoc;obtain ⟨_,h2,h3,_⟩:=hoc;have hE:ends (fold start (l.take j)) l[j]=false:=h2.symm;have hC:(next (fold start (l.take j)) l[j]).code=0:=h3.symm;rw [e,jM];refine ⟨nV hg,hC,?_⟩;rw [NW hc hC,hE,hcm];rfl
theorem zx (l:List UInt8) (j:Nat) (hj:j<l.length) (hs:(of l).size=0∨j+1<(of l).size):ends (fold start (l.take j)) l[j]=false∧(next (fold start (l.take j)) l[j]).code=0:=by
 obtain ⟨hg,hc,hcm⟩:=q9 l j (by omega) (by omega);have e:l.take (j+1)=l.take j++[l[j]]:=List.take_succ_eq_append_getElem hj;have hoc:=EI hg hc l[j];rw [hcm,←e,EJ l (j+1) (by omega),if_neg (by omega)] at hoc;exact ⟨hoc.2.1.symm,hoc.2.2.1.symm⟩
theorem Dh (l:List UInt8) (j:Nat) (hj:j<l.length) (hs:j+1=(of l).size):ends (fold start (l.take j)) l[j]=(of l).ended∧(next (fold start (l.take j)) l[j]).code=(of l).code∧text (fold start (l.take j)) l[j]=(of l).text:=by
 obtain ⟨hg,hc,hcm⟩:=q9 l j (by omega) (by omega);have e:l.take (j+1)=l.take j++[l[j]]:=List.take_succ_eq_append_getElem hj;have hoc:=EI hg hc l[j];rw [hcm,←e,EJ l (j+1) (by omega),if_pos (by omega)] at hoc;exact ⟨hoc.2.1.symm,hoc.2.2.1.symm,hoc.1.symm⟩
theorem MJ (l:List UInt8):∀ (t:List UInt8) (i:Nat),(go l i t).size=0∨((go l i t).code=0∧(go l i t).ended=true)∨((go l i t).code≠0∧(go l i t).ended=false)
 | [],i=>Or.inl rfl
 | c :: t, i => by
   unfold go;split
   · split
     · exact Or.inl rfl
     · split
       · exact Or.inr (Or.inl ⟨rfl,rfl⟩)
       · exact Or.inr (Or.inr ⟨by show 2≠0;omega,rfl⟩)
   · split
     · exact Or.inr (Or.inr ⟨by show 2≠0;omega,rfl⟩)
     · split
       · exact Or.inr (Or.inr ⟨by show 3≠0;omega,rfl⟩)
       · split
         · exact Or.inr (Or.inr ⟨by show 4≠0;omega,rfl⟩)
         · exact MJ l t (i+1)
theorem yZ (l:List UInt8):(of l).size=0∨((of l).code=0∧(of l).ended=true)∨((of l).code≠0∧(of l).ended=false):=MJ l l 0
theorem go_open (l:List UInt8):∀ (t:List UInt8) (i:Nat),(go l i t).size=0→go l i t=open_
 | [],i,_=>rfl
 | c :: t, i, h => by
   unfold go at h ⊢;split at h
   · rename_i gV;rw [if_pos gV];split at h
     · rfl
     · split at h
       · exact absurd (show i+2=0 from h) (by omega)
       · exact absurd (show i+2=0 from h) (by omega)
   · rename_i gV;rw [if_neg gV];split at h
     · exact absurd (show i+1=0 from h) (by omega)
     · rename_i h10;rw [if_neg h10];split at h
       · exact absurd (show i+1=0 from h) (by omega)
       · rename_i hv;rw [if_neg hv];split at h
         · exact absurd (show i+1=0 from h) (by omega)
         · rename_i h2;rw [if_neg h2];exact go_open l t (i+1) h
theorem VP (l:List UInt8) (h:(of l).size=0):of l=open_:=go_open l l 0 h
end Go.Proofs.YtjmndjmhjleabaaGreatDoor.Ln
namespace Go.Proofs.YtjmndjmhjleabaaGreatDoor.Ch
def dh:Nat→Nat→List UInt8
 | 0,n=>[(48+n).toUInt8]
 | f+1,n=>if n<10 then [(48+n).toUInt8] else dh f (n / 10)++[(48+n % 10).toUInt8]
theorem dN:∀ f n,(dh f n).length≤f+1∧1≤(dh f n).length
 | 0,n=>by simp [dh]
 | f + 1, n => by
   unfold dh;split
   · simp
   · have:=dN f (n / 10);simp;omega
theorem VQ (b:UInt8) (h:capital b.toNat=false):kZ b=b:=by
 unfold kZ pJ;rw [if_neg];intro hc;unfold capital at h;rw [decide_eq_true (by omega),decide_eq_true (by omega)] at h;cases h
theorem Ru (b:UInt8) (h:capital b.toNat=true):((kZ b).toNat:Int)=b.toNat - 65+97:=by
 unfold capital at h;rw [Bool.and_eq_true,decide_eq_true_eq,decide_eq_true_eq] at h;unfold kZ pJ;rw [if_pos (by omega),UInt8.toNat_add];have:(32:UInt8).toNat=32:=rfl;rw [this];omega
theorem zy (p:UInt8→Bool) (a:UInt8) (t:List UInt8) :
 ((a::t).reverse.dropWhile p).reverse=if ((t.reverse.dropWhile p).reverse)=[] then (if p a then [] else [a]) else a::(t.reverse.dropWhile p).reverse:=by
 rw [List.reverse_cons,List.dropWhile_append];by_cases h:(t.reverse.dropWhile p)=[]
 · rw [h];simp [List.dropWhile];cases p a <;> simp
 · have h1:(List.dropWhile p t.reverse).isEmpty=false:=by
    cases h2:List.dropWhile p t.reverse with
    | nil=>exact absurd h2 h
    | cons _ _=>rfl
   rw [h1];simp [h]
theorem Di (p:UInt8→Bool):∀ l:List UInt8,(((l.dropWhile p).reverse.dropWhile p).reverse)=((l.reverse.dropWhile p).reverse).dropWhile p
 | []=>rfl
 | a :: t => by
   rw [zy];cases hp:p a
   · rw [List.dropWhile_cons,hp];simp only [Bool.false_eq_true,if_false];rw [zy];split <;> simp [hp]
   · rw [List.dropWhile_cons,hp];simp only [if_true];rw [Di p t];split
     · rename_i h;rw [h]
     · rw [List.dropWhile_cons,hp];simp
def ws:List UInt8:=[32,9]
theorem Dj (l:List UInt8):Lib.trimRightS (Lib.trimLeftS l ws) ws=Lib.trimS l ws:=Di (ws.contains ·) l
theorem MK (b:UInt8):ws.contains b=(((b.toNat:Int)==32) || ((b.toNat:Int)==9)):=by
 have hb:=b.toNat_lt;have:=(show ∀ n:Fin 256,ws.contains n.val.toUInt8=((((n.val.toUInt8).toNat:Int)==32) || (((n.val.toUInt8).toNat:Int)==9)) by decide +kernel) ⟨b.toNat,hb⟩;have e:b.toNat.toUInt8=b:=by simp
 simpa only [e] using this
theorem Dk (x:ByteArray) (h:0<x.size):x.data.toList=x[0]::x.data.toList.drop 1:=by
 have:=List.drop_eq_getElem_cons (l:=x.data.toList) (i:=0) (by simpa using h);rw [List.drop_zero] at this;exact this
theorem Dl (x:ByteArray) (h:0<x.size):x.data.toList=x.data.toList.take (x.size - 1)++[x[x.size - 1]]:=by
 have:=bU x (x.size - 1) (by omega);rw [←this,fI x _ (by omega)]
theorem left_step (x:ByteArray) (h:0<x.size) (hp:ws.contains x[0]=true):Lib.trimLeftS (x.data.toList.drop 1) ws=Lib.trimLeftS x.data.toList ws:=by
 unfold Lib.trimLeftS;conv=>rhs;rw [Dk x h,List.dropWhile_cons,hp]
 rfl
theorem left_stop (x:ByteArray) (hp:∀ h:0<x.size,ws.contains (x[0]'h)=false):Lib.trimLeftS x.data.toList ws=x.data.toList:=by
 unfold Lib.trimLeftS;by_cases h:0<x.size
 · rw [Dk x h,List.dropWhile_cons,hp h];rfl
 · obtain rfl:=empty_eq x (by omega);rfl
theorem right_step (x:ByteArray) (h:0<x.size) (hp:ws.contains (x[x.size - 1]'(by omega))=true):Lib.trimRightS (x.data.toList.take (x.size - 1)) ws=Lib.trimRightS x.data.toList ws:=by
 unfold Lib.trimRightS;conv=>rhs;rw [Dl x h,List.reverse_append,List.reverse_cons,List.reverse_nil,List.nil_append,List.singleton_append,List.dropWhile_cons,hp]
 rfl
theorem right_stop (x:ByteArray) (hp:∀ h:0<x.size,ws.contains (x[x.size - 1]'(by omega))=false):Lib.trimRightS x.data.toList ws=x.data.toList:=by
 unfold Lib.trimRightS;by_cases h:0<x.size
 · rw [Dl x h,List.reverse_append,List.reverse_cons,List.reverse_nil,List.nil_append,List.singleton_append,List.dropWhile_cons,hp h];simp
 · obtain rfl:=empty_eq x (by omega);rfl
end Go.Proofs.YtjmndjmhjleabaaGreatDoor.Ch
namespace Go.Proofs.YtjmndjmhjleabaaGreatDoor.Fd
def at_ (c:UInt8) (l:List UInt8):Nat:=l.findIdx (·==c)
theorem Rv (c:UInt8) (l:List UInt8):at_ c l≤l.length:=List.findIdx_le_length
theorem y7 {c:UInt8} {l:List UInt8} (h:at_ c l<l.length):l[at_ c l]=c:=by
 have:=List.findIdx_getElem (w:=h);exact beq_iff_eq.1 this
theorem zA {c:UInt8} {l:List UInt8} {j:Nat} (h:j<at_ c l) (hj:j<l.length):l[j]≠c:=by
 have:=List.not_of_lt_findIdx h;intro e;exact absurd (beq_iff_eq.2 e) (by simpa using this)
theorem ML {c:UInt8} {l:List UInt8} (h:∀ j (hj:j<l.length),l[j]≠c):at_ c l=l.length:=by
 rcases Nat.lt_or_ge (at_ c l) l.length with g | g
 · exact absurd (y7 g) (h _ g)
 · exact Nat.le_antisymm (Rv c l) g
theorem X7 {c:UInt8} {l:List UInt8} {k:Nat} (hk:k<l.length) (h:l[k]=c) (hf:∀ j (hj:j<k),l[j]≠c):at_ c l=k:=by
 rcases Nat.lt_trichotomy (at_ c l) k with g | g | g
 · exact absurd (y7 (Nat.lt_trans g hk)) (hf _ g)
 · exact g
 · exact absurd h (zA g hk)
structure Told where
 name:List UInt8
 value:List UInt8
 code:Nat
def bad (c:Nat):Told:=⟨[],[],c⟩
def of (l:List UInt8):Told :=
 if at_ 58 l=l.length then bad 5
 else if Ch.isToken (l.take (at_ 58 l))=false then bad 6
 else if 40<at_ 58 l then bad 4
 else if Ch.aM (l.drop (at_ 58 l+1))=false then bad 3
 else ⟨l.take (at_ 58 l),Lib.trimS (l.drop (at_ 58 l+1)) Ch.ws,0⟩
def text (n v:List UInt8):List UInt8×Nat :=
 if Ch.isToken n=false then ([],6)
 else if 40<n.length∨200<n.length+2+v.length then ([],4)
 else if Ch.aM v=false∨Lib.trimS v Ch.ws≠v then ([],3)
 else (n++[58,32]++v,0)
end Go.Proofs.YtjmndjmhjleabaaGreatDoor.Fd
namespace Go.Proofs.YtjmndjmhjleabaaGreatDoor.Ck
structure Told where
 body:List UInt8
 used:Nat
 over:Bool
 code:Nat
def size (t:List UInt8):Int×Bool:=Ch.number 16 6 (Lib.trimS (t.take (Fd.at_ 59 t)) Ch.ws)
def trail:Nat→List UInt8→Nat→Told
 | 0,_,_=>⟨[],0,false,0⟩
 | f + 1, l, n =>
   if (Ln.of l).code≠0∨(Ln.of l).ended=false then ⟨[],(Ln.of l).size,false,(Ln.of l).code⟩
   else if (Ln.of l).text=[] then ⟨[],(Ln.of l).size,true,0⟩
   else if n=16 then ⟨[],(Ln.of l).size,false,8⟩
   else if (Fd.of (Ln.of l).text).code≠0 then ⟨[],(Ln.of l).size,false,(Fd.of (Ln.of l).text).code⟩
   else let r:=trail f (l.drop (Ln.of l).size) (n+1);⟨r.body,(Ln.of l).size+r.used,r.over,r.code⟩
def go:Nat→List UInt8→Nat→Told
 | 0,_,_=>⟨[],0,false,0⟩
 | f + 1, l, n =>
   if (Ln.of l).code≠0∨(Ln.of l).ended=false then ⟨[],(Ln.of l).size,false,(Ln.of l).code⟩
   else if (size (Ln.of l).text).2=false then ⟨[],(Ln.of l).size,false,7⟩
   else if 4000<n+(size (Ln.of l).text).1.toNat then ⟨[],(Ln.of l).size,false,4⟩
   else if (size (Ln.of l).text).1.toNat=0 then
    let r:=trail (f+1) (l.drop (Ln.of l).size) 0;⟨r.body,(Ln.of l).size+r.used,r.over,r.code⟩
   else
    let k:=(size (Ln.of l).text).1.toNat
    let d:=l.drop (Ln.of l).size
    if d.length<k then ⟨d,(Ln.of l).size+d.length,false,0⟩
    else
     let e:=d.drop k
     if (Ln.of e).code≠0∨(Ln.of e).ended=false then ⟨d.take k,(Ln.of l).size+k+(Ln.of e).size,false,(Ln.of e).code⟩
     else if (Ln.of e).text≠[] then ⟨d.take k,(Ln.of l).size+k+(Ln.of e).size,false,5⟩
     else let r:=go f (e.drop (Ln.of e).size) (n+k);⟨d.take k++r.body,(Ln.of l).size+k+(Ln.of e).size+r.used,r.over,r.code⟩
def of (l:List UInt8):Told:=go (l.length+1) l 0
structure St where
 ph:Nat
 ln:Ln.St
 left:Nat
 total:Nat
 count:Nat
 code:Nat
def start:St:=⟨0,Ln.start,0,0,0,0⟩
def line (s:St) (t:List UInt8):St :=
 if s.ph=0 then
  (if (size t).2 = false then { s with code := 7 }
   else if 4000<s.total+(size t).1.toNat then { s with code:=4 }
   else if (size t).1.toNat=0 then { s with ph:=3 }
   else { s with ph:=1,left:=(size t).1.toNat,total:=s.total+(size t).1.toNat })
 else if s.ph=2 then (if t≠[] then { s with code:=5 } else { s with ph:=0 })
 else if t=[] then { s with ph:=4 }
 else if s.count=16 then { s with code:=8 }
 else if (Fd.of t).code≠0 then { s with code:=(Fd.of t).code }
 else { s with count:=s.count+1 }
def next (s:St) (c:UInt8):St :=
 if s.code≠0 then s
 else if s.ph=4 then { s with code:=18 }
 else if s.ph=1 then { s with left:=s.left - 1,ph:=if s.left≤1 then 2 else 1 }
 else if (Ln.next s.ln c).code≠0 then { s with code:=(Ln.next s.ln c).code }
 else if Ln.ends s.ln c=true then line { s with ln:=Ln.start } (Ln.text s.ln c)
 else { s with ln:=Ln.next s.ln c }
def out (s:St) (c:UInt8):List UInt8:=if s.code=0∧s.ph=1 then [c] else []
def run:St→List UInt8→Told
 | _,[]=>⟨[],0,false,0⟩
 | s, c :: t =>
   if (next s c).code≠0 then ⟨out s c,1,false,(next s c).code⟩
   else if (next s c).ph=4 then ⟨out s c,1,true,0⟩
   else ⟨out s c++(run (next s c) t).body,1+(run (next s c) t).used,(run (next s c) t).over,(run (next s c) t).code⟩
structure Same (a b:Told):Prop where
 body:a.body=b.body
 over:a.over=b.over
 code:a.code=b.code
 used:(a.code≠0∨a.over=true)→a.used=b.used
theorem Same.refl (a:Told):Same a a:=⟨rfl,rfl,rfl,fun _=>rfl⟩
def shift (x:List UInt8) (k:Nat) (r:Told):Told:=⟨x++r.body,k+r.used,r.over,r.code⟩
theorem Same.shift {a b:Told} (h:Same a b) (x:List UInt8) (k:Nat):Same (Ck.shift x k a) (Ck.shift x k b) :=
 ⟨by simp [Ck.shift,h.body],h.over,h.code,fun e=>by show k+a.used=k+b.used;rw [h.used e]⟩
theorem ji (x y:List UInt8) (j k:Nat) (r:Told):shift x j (shift y k r)=shift (x++y) (j+k) r:=by
 simp [shift,Nat.add_assoc]
theorem vY {s:St} {c:UInt8} (t:List UInt8) (h1:(next s c).code=0) (h2:(next s c).ph≠4):run s (c::t)=shift (out s c) 1 (run (next s c) t):=by
 rw [run,if_neg (by omega),if_neg h2];rfl
structure jc (s:St):Prop where
 code:s.code=0
 ph:s.ph=0∨s.ph=2∨s.ph=3
 ln:s.ln=Ln.start
theorem VR {s:St} {x:Ln.St} (h:jc s) (c:UInt8) (hq:Ln.ends x c=false) (hc:(Ln.next x c).code=0):next { s with ln:=x } c={ s with ln:=Ln.next x c }:=by
 have h1:=h.code;have h2:=h.ph;unfold next;rw [if_neg (by simpa using h1),if_neg (by show ¬ s.ph=4;omega),if_neg (by show ¬ s.ph=1;omega),if_neg (by simpa using hc),if_neg (by simp [hq])]
theorem Rw {s:St} {x:Ln.St} (h:jc s) (c:UInt8):out { s with ln:=x } c=[]:=by
 have h2:=h.ph;unfold out;rw [if_neg (fun e=>by have:s.ph=1:=e.2;omega)]
theorem zB {s:St} (h:jc s) (l:List UInt8):∀ j,j≤l.length→((Ln.of l).size=0∨j<(Ln.of l).size)→run s l=shift [] j (run { s with ln:=Ln.fold Ln.start (l.take j) } (l.drop j))
 | 0, _, _ => by
   have e:{ s with ln:=Ln.fold Ln.start (l.take 0) }=s:=by
    have:=h.ln;cases s;simp only at this;subst this;rfl
   rw [e];simp [shift]
 | j + 1, hj, hs => by
   have hlt:j<l.length:=by omega
   rw [zB h l j (by omega) (by omega),List.drop_eq_getElem_cons hlt];obtain ⟨hE,hC⟩:=Ln.zx l j hlt (by omega);have hn:=VR h l[j] hE hC;have h1:=h.code;have h2:=h.ph;rw [vY _ (by rw [hn];exact h1) (by rw [hn];show s.ph≠4;omega),Rw h,hn,ji,List.nil_append,List.take_succ_eq_append_getElem hlt,Ln.jM]
theorem Rx {s:St} (h:jc s) (l:List UInt8) (ho:(Ln.of l).size=0):(run s l).body=[]∧(run s l).over=false∧(run s l).code=0:=by
 rw [zB h l l.length (Nat.le_refl _) (Or.inl ho),List.drop_length];exact ⟨rfl,rfl,rfl⟩
theorem zC {s:St} (h:jc s) (l:List UInt8) (ho:0<(Ln.of l).size):run s l =
 if (Ln.of l).code≠0 then ⟨[],(Ln.of l).size,false,(Ln.of l).code⟩
 else if (line s (Ln.of l).text).code≠0 then ⟨[],(Ln.of l).size,false,(line s (Ln.of l).text).code⟩
 else if (line s (Ln.of l).text).ph=4 then ⟨[],(Ln.of l).size,true,0⟩
 else shift [] (Ln.of l).size (run (line s (Ln.of l).text) (l.drop (Ln.of l).size)):=by
 obtain ⟨j,hj⟩:∃ j,(Ln.of l).size=j+1:=⟨(Ln.of l).size - 1,by omega⟩;have hle:=Ln.of_le l;have hlt:j<l.length:=by omega
 have h1:=h.code;have h2:=h.ph;obtain ⟨hE,hC,hT⟩:=Ln.Dh l j hlt hj.symm;have hsl:{ s with ln:=Ln.start }=s:=by
  have:=h.ln;cases s;simp only at this;subst this;rfl
 have hn:next { s with ln:=Ln.fold Ln.start (l.take j) } l[j]=if (Ln.of l).code≠0 then { s with ln:=Ln.fold Ln.start (l.take j),code:=(Ln.of l).code } else line s (Ln.of l).text:=by
  unfold next;rw [if_neg (by simpa using h1),if_neg (by show ¬ s.ph=4;omega),if_neg (by show ¬ s.ph=1;omega)];show (if (Ln.next (Ln.fold Ln.start (l.take j)) l[j]).code≠0 then _ else if Ln.ends (Ln.fold Ln.start (l.take j)) l[j]=true then line { s with ln:=Ln.start } (Ln.text (Ln.fold Ln.start (l.take j)) l[j]) else _)=_;rw [hC];by_cases hc:(Ln.of l).code=0
  · have hcn:¬ (Ln.of l).code≠0:=by omega
    rw [if_neg hcn,if_neg hcn,hE,hT,hsl];rcases Ln.yZ l with hk | hk | hk
    · omega
    · rw [if_pos hk.2]
    · exact absurd hc hk.1
  · rw [if_pos hc,if_pos hc]
 rw [zB h l j (by omega) (Or.inr (by omega)),List.drop_eq_getElem_cons hlt,run,hn,Rw h,hj];by_cases hc:(Ln.of l).code=0
 · have hcn:¬ (Ln.of l).code≠0:=by omega
   simp only [if_neg hcn];by_cases hlc:(line s (Ln.of l).text).code=0
   · have hln:¬ (line s (Ln.of l).text).code≠0:=by omega
     simp only [if_neg hln];by_cases h4:(line s (Ln.of l).text).ph=4
     · rw [if_pos h4,if_pos h4];simp [shift]
     · rw [if_neg h4,if_neg h4];simp [shift,Nat.add_assoc]
   · rw [if_pos hlc,if_pos hlc];simp [shift]
 · rw [if_pos hc];rw [if_pos (show ({ s with ln:=Ln.fold Ln.start (l.take j),code:=(Ln.of l).code }:St).code≠0 from hc),if_pos hc];simp [shift]
theorem Dm (s:St) (h0:s.code=0):∀ (k:Nat) (l:List UInt8),run { s with ph:=1,left:=k+1 } l =
 if l.length<k+1 then ⟨l,l.length,false,0⟩ else shift (l.take (k+1)) (k+1) (run { s with ph:=2,left:=0 } (l.drop (k+1)))
 | k,[]=>by rw [if_pos (by simp)];rfl
 | k, c :: t => by
   have ho:out { s with ph:=1,left:=k+1 } c=[c]:=by unfold out;rw [if_pos ⟨h0,rfl⟩]
   cases k with
   | zero =>
     have hn:next { s with ph:=1,left:=0+1 } c={ s with ph:=2,left:=0 }:=by
      unfold next;rw [if_neg (by simpa using h0),if_neg (by show ¬ 1=4;omega),if_pos rfl];rfl
     rw [vY t (by rw [hn];exact h0) (by rw [hn];show 2≠4;omega),ho,hn,if_neg (by simp)];rfl
   | succ k =>
     have hn:next { s with ph:=1,left:=k+1+1 } c={ s with ph:=1,left:=k+1 }:=by
      unfold next;rw [if_neg (by simpa using h0),if_neg (by show ¬ 1=4;omega),if_pos rfl];show ({ s with ph:=if k+1+1≤1 then 2 else 1,left:=k+1+1 - 1 }:St)=_;rw [if_neg (by omega)];rfl
     rw [vY t (by rw [hn];exact h0) (by rw [hn];show 1≠4;omega),ho,hn,Dm s h0 k t];by_cases hl:t.length<k+1
     · rw [if_pos hl,if_pos (by simp;omega)];simp [shift];omega
     · rw [if_neg hl,if_neg (by simp;omega),ji];have e:k+1+1=(k+1)+1:=rfl;rw [e,List.take_succ_cons,List.drop_succ_cons,Nat.add_comm 1 (k+1)];rfl
end Go.Proofs.YtjmndjmhjleabaaGreatDoor.Ck
namespace Go.Proofs.YtjmndjmhjleabaaGreatDoor.Sp
structure Up where
 id:Int
 size:Int
 note:ByteArray
 bytes:List UInt8
 sent:Int
structure St where
 l:List Up
 last:Int
def new:St:=⟨[],0⟩
def used:List Up→Nat
 | []=>0
 | u::t=>u.bytes.length+used t
def place:List Up→Int→Option Nat
 | [],_=>none
 | u::t,id=>if u.id=id then some 0 else (place t id).map (·+1)
def jw (s:St) (id:Int) (f:Nat→Up→St×Nat):St×Nat :=
 match place s.l id with
 | none=>(s,10)
 | some i => match s.l[i]? with
   | none=>(s,10)
   | some u=>f i u
def create (s:St) (size:Int) (m:ByteArray):St×Int×Nat :=
 if size < -1 then (s,0,1) else if 2000<size∨100<m.size then (s,0,4) else if Ch.aM m.data.toList=false∨Lib.trimS m.data.toList Ch.ws≠m.data.toList then (s,0,3) else if 12≤s.l.length then (s,0,8)
 else (⟨s.l++[⟨s.last+1,size,m,[],0⟩],s.last+1⟩,s.last+1,0)
def append (s:St) (id off:Int) (b:List UInt8):St×Nat:=jw s id fun i u =>
 if u.sent≠0 then (s,19) else if off≠u.bytes.length then (s,17) else if 2000<u.bytes.length+b.length∨(0≤u.size∧u.size<u.bytes.length+b.length) then (s,4) else if 6000<used s.l+b.length then (s,16)
 else (⟨s.l.set i { u with bytes:=u.bytes++b },s.last⟩,0)
def declare (s:St) (id size:Int):St×Nat:=jw s id fun i u =>
 if 0≤u.size then (s,18) else if size<0 then (s,1) else if 2000<size∨size<u.bytes.length then (s,4)
 else (⟨s.l.set i { u with size:=size },s.last⟩,0)
def drop (s:St) (id:Int):St×Nat:=jw s id fun i _=>(⟨s.l.eraseIdx i,s.last⟩,0)
structure abu (last:Int) (u:Up):Prop where
 low:1≤u.id
 high:u.id≤last
 Dn:-1≤u.size
 Gg:u.size≤2000
 long:u.bytes.length≤2000
 fits:0≤u.size→u.bytes.length≤u.size
 Ry:0≤u.sent
 Rz:u.sent≤2
 whole:u.sent≠0→u.size=u.bytes.length
 note:u.note.size≤100
structure Ok (s:St):Prop where
 few:s.l.length≤12
 quota:used s.l≤6000
 zD:0≤s.last
 rise:(s.l.map (·.id)).Pairwise (·<·)
 all:∀ u∈s.l,abu s.last u
theorem Ok.new:Ok new:=⟨by simp [Sp.new],by simp [Sp.new,used],by simp [Sp.new],by simp [Sp.new],fun u h=>by simp [Sp.new] at h⟩
theorem nu:∀ a b:List Up,used (a++b)=used a+used b
 | [],b=>by simp [used]
 | u::t,b=>by rw [List.cons_append,used,used,nu t b];omega
theorem Gh:∀ (l:List Up) (i:Nat) (u v:Up),l[i]? = some u→used (l.set i v)+u.bytes.length=used l+v.bytes.length
 | [],i,u,v,h=>by simp at h
 | x :: t, 0, u, v, h => by
   have h:x=u:=by simpa using h
   subst h;rw [List.set_cons_zero,used,used];omega
 | x :: t, i + 1, u, v, h => by
   have:=Gh t i u v (by simpa using h);rw [List.set_cons_succ,used,used];omega
theorem zF:∀ (l:List Up) (i:Nat),used (l.eraseIdx i)≤used l
 | [],i=>by simp [used]
 | x::t,0=>by rw [List.eraseIdx_cons_zero,used];omega
 | x::t,i+1=>by have:=zF t i;rw [List.eraseIdx_cons_succ,used,used];omega
theorem zG:∀ (l:List Up) (id:Int) (i:Nat),place l id=some i→∃ u,l[i]? = some u∧u.id=id
 | [],id,i,h=>by cases h
 | x :: t, id, i, h => by
   rw [place] at h;split at h
   · rename_i hx;injection h with h;subst h;exact ⟨x,rfl,hx⟩
   · cases hp:place t id with
     | none=>rw [hp] at h;cases h
     | some j =>
       rw [hp] at h;injection h with h;obtain ⟨u,h1,h2⟩:=zG t id j hp;subst h;exact ⟨u,by simpa using h1,h2⟩
theorem Ok.set {s:St} (h:Ok s) {i:Nat} {u v:Up} (hu:s.l[i]? = some u) (hid:v.id=u.id) (hv:abu s.last v) (hq:used s.l+v.bytes.length≤6000+u.bytes.length):Ok ⟨s.l.set i v,s.last⟩:=by
 refine ⟨by simpa using h.few,?_,h.zD,?_,fun x hx=>?_⟩
 · have:=Gh s.l i u v hu;show used (s.l.set i v)≤6000;omega
 · have:(s.l.set i v).map (·.id)=s.l.map (·.id):=by
    rw [List.map_set,hid];refine List.ext_getElem? fun k=>?_;rw [List.getElem?_set];split
    · rename_i e;subst e;split
      · rw [List.getElem?_map,hu];rfl
      · rename_i hk;rw [List.getElem?_eq_none (by omega)]
    · rfl
   show ((s.l.set i v).map (·.id)).Pairwise (·<·);rw [this];exact h.rise
 · rcases List.mem_or_eq_of_mem_set hx with hx | hx
   · exact h.all x hx
   · subst hx;exact hv
theorem Ok.at_ {s:St} (h:Ok s) {id:Int} {f:Nat→Up→St×Nat} (hf:∀ i u,s.l[i]? = some u→Ok (f i u).1):Ok (jw s id f).1:=by
 unfold jw;split
 · exact h
 · split
   · exact h
   · rename_i i hi _ u hu;exact hf i u hu
theorem Ok.create {s:St} (h:Ok s) (size:Int) (m:ByteArray):Ok (create s size m).1:=by
 unfold Sp.create;split
 · exact h
 · split
   · exact h
   · split
     · exact h
     · split
       · exact h
       · rename_i h1 h2 _ h4;have hl:=h.zD;refine ⟨by simp;omega,?_,by show 0≤s.last+1;omega,?_,fun u hu=>?_⟩
         · show used (s.l++[_])≤6000;rw [nu];have:=h.quota;simp [used];omega
         · show ((s.l++[(⟨s.last+1,size,m,[],0⟩:Up)]).map (·.id)).Pairwise (·<·);rw [List.map_append,List.pairwise_append];refine ⟨h.rise,by simp,fun a ha b hb=>?_⟩;obtain ⟨u,hu,rfl⟩:=List.mem_map.1 ha;have:=(h.all u hu).high;simp at hb;subst hb;show u.id<s.last+1;omega
         · rcases List.mem_append.1 hu with hu | hu
           · have:=h.all u hu;exact ⟨this.low,by have:=this.high;show u.id≤s.last+1;omega,this.Dn,this.Gg,this.long,this.fits,this.Ry,this.Rz,this.whole,this.note⟩
           · rw [List.mem_singleton.1 hu];exact ⟨by show 1≤s.last+1;omega,Int.le_refl _,by show -1≤size;omega,by show size≤2000;omega,by simp,fun e=>by simpa using e,by simp,by simp,fun e=>absurd rfl e,by show m.size≤100;omega⟩
theorem Ok.append {s:St} (h:Ok s) (id off:Int) (b:List UInt8):Ok (append s id off b).1:=by
 refine h.at_ fun i u hu=>?_;have hk:=h.all u (List.mem_of_getElem? hu);have hq:=h.quota;split
 · exact h
 · split
   · exact h
   · split
     · exact h
     · split
       · exact h
       · rename_i h1 h2 h3 h4;refine h.set hu rfl ⟨hk.low,hk.high,hk.Dn,hk.Gg,by simp;omega,fun e=>?_,hk.Ry,hk.Rz,fun e=>absurd e (by simpa using h1),hk.note⟩ (by simp;omega);have e':0≤u.size:=e;simp only [List.length_append];omega
theorem Ok.declare {s:St} (h:Ok s) (id size:Int):Ok (declare s id size).1:=by
 refine h.at_ fun i u hu=>?_;have hk:=h.all u (List.mem_of_getElem? hu);have hq:=h.quota;split
 · exact h
 · split
   · exact h
   · split
     · exact h
     · rename_i h1 h2 h3;refine h.set hu rfl ⟨hk.low,hk.high,by show -1≤size;omega,by show size≤2000;omega,hk.long,fun _=>by show (u.bytes.length:Int)≤size;omega,hk.Ry,hk.Rz,fun e=>?_,hk.note⟩ (by show used s.l+u.bytes.length≤_;omega);have:=hk.whole e;omega
theorem Ok.drop {s:St} (h:Ok s) (id:Int):Ok (drop s id).1:=by
 refine h.at_ fun i u hu=>?_;refine ⟨Nat.le_trans (List.length_eraseIdx_le ..) h.few,Nat.le_trans (zF s.l i) h.quota,h.zD,?_,fun x hx=>h.all x (List.mem_of_mem_eraseIdx hx)⟩;show ((s.l.eraseIdx i).map (·.id)).Pairwise (·<·);exact h.rise.sublist ((List.eraseIdx_sublist s.l i).map _)
theorem Dp (l:List Up) (k:Nat) (h:k<l.length):used (l.take (k+1))=used (l.take k)+l[k].bytes.length:=by
 rw [List.take_succ_eq_append_getElem h,nu];simp [used]
theorem MN (l:List Up) (k:Nat):used (l.take k)≤used l:=by
 conv=>rhs;rw [←List.take_append_drop k l,nu]
 omega
theorem RA (l:List Up) (k:Nat) (h:k<l.length):l[k].bytes.length≤used l:=by
 have h1:=Dp l k h;have h2:=MN l (k+1);omega
theorem Gi:∀ (l:List Up) (id:Int) (k:Nat) (h:k<l.length),l[k].id=id→(∀ u∈l.take k,u.id≠id)→place l id=some k
 | x::t,id,0,_,e,_=>by rw [place,if_pos (by simpa using e)]
 | x :: t, id, k + 1, h, e, hn => by
   rw [place,if_neg (hn x (by simp)),Gi t id k (by simpa using h) (by simpa using e) (fun u hu=>hn u (by simp [hu]))];rfl
theorem Gj:∀ (l:List Up) (id:Int),(∀ u∈l,u.id≠id)→place l id=none
 | [],_,_=>rfl
 | x :: t, id, hn => by
   rw [place,if_neg (hn x (by simp)),Gj t id (fun u hu=>hn u (by simp [hu]))];rfl
theorem nW {l:List Up} {id:Int} {i:Nat} (h:place l id=some i):i<l.length:=by
 obtain ⟨u,hu,_⟩:=zG l id i h;exact (List.getElem?_eq_some_iff.1 hu).1
theorem vZ {s:St} {id:Int} {f:Nat→Up→St×Nat} (h:place s.l id=none):jw s id f=(s,10):=by
 unfold jw;rw [h]
theorem wm {s:St} {id:Int} {f:Nat→Up→St×Nat} {i:Nat} (h:place s.l id=some i):jw s id f=f i (s.l[i]'(nW h)):=by
 unfold jw;rw [h];simp only [List.getElem?_eq_getElem (nW h)]
def pl (l:List Up) (id:Int):Int:=match place l id with
 | none=>-1
 | some i=>i
theorem uG {l:List Up} {id:Int} (h:place l id=none):pl l id=-1:=by unfold pl;rw [h]
theorem uH {l:List Up} {id:Int} {i:Nat} (h:place l id=some i):pl l id=i:=by unfold pl;rw [h]
theorem zH (s:St) (size:Int) (m:ByteArray):(create s size m).1.last≤s.last+1:=by
 unfold create;split
 · show s.last≤_;omega
 · split
   · show s.last≤_;omega
   · split
     · show s.last≤_;omega
     · split
       · show s.last≤_;omega
       · exact Int.le_refl _
theorem wu (s:St) (id:Int) (f:Nat→Up→St×Nat) (hf:∀ i u,(f i u).1.last=s.last):(jw s id f).1.last=s.last:=by
 unfold jw;split
 · rfl
 · split
   · rfl
   · exact hf _ _
theorem Gl (s:St) (id off:Int) (b:List UInt8):(append s id off b).1.last=s.last:=wu s id _ fun i u=>by
 split
 · rfl
 · split
   · rfl
   · split
     · rfl
     · split <;> rfl
theorem EK (s:St) (id size:Int):(declare s id size).1.last=s.last:=wu s id _ fun i u=>by
 split
 · rfl
 · split
   · rfl
   · split <;> rfl
theorem NY (s:St) (id:Int):(drop s id).1.last=s.last:=wu s id _ fun _ _=>rfl
def uI (s:St) (off:Int) (b:List UInt8) (i:Nat) (u:Up):St×Nat :=
 if u.sent≠0 then (s,19) else if off≠u.bytes.length then (s,17) else if 2000<u.bytes.length+b.length∨(0≤u.size∧u.size<u.bytes.length+b.length) then (s,4) else if 6000<used s.l+b.length then (s,16)
 else (⟨s.l.set i { u with bytes:=u.bytes++b },s.last⟩,0)
def dh (s:St) (size:Int) (i:Nat) (u:Up):St×Nat :=
 if 0≤u.size then (s,18) else if size<0 then (s,1) else if 2000<size∨size<u.bytes.length then (s,4)
 else (⟨s.l.set i { u with size:=size },s.last⟩,0)
def RB (s:St) (i:Nat) (_:Up):St×Nat:=(⟨s.l.eraseIdx i,s.last⟩,0)
theorem RD (s:St) (id off:Int) (b:List UInt8):append s id off b=jw s id (uI s off b):=rfl
theorem NZ (s:St) (id size:Int):declare s id size=jw s id (dh s size):=rfl
theorem YW (s:St) (id:Int):drop s id=jw s id (RB s):=rfl
end Go.Proofs.YtjmndjmhjleabaaGreatDoor.Sp
namespace Go.Proofs.YtjmndjmhjleabaaGreatDoor.Pm
def blank (c:UInt8):Bool:=c==32 || c==9
def tok (c:UInt8):Bool:=Ch.token c.toNat
def run (p:UInt8→Bool) (l:List UInt8) (i:Nat):Nat:=((l.drop i).takeWhile p).length
theorem Gp {p:UInt8→Bool} {l:List UInt8} {i:Nat} (h:i<l.length) (hp:p l[i]=true):run p l i=1+run p l (i+1):=by
 unfold run;rw [List.drop_eq_getElem_cons h,List.takeWhile_cons,hp];simp only [if_true,List.length_cons];omega
theorem Gq {p:UInt8→Bool} {l:List UInt8} {i:Nat} (h:i<l.length) (hp:p l[i]=false):run p l i=0:=by
 unfold run;rw [List.drop_eq_getElem_cons h,List.takeWhile_cons,hp];rfl
theorem run_end (p:UInt8→Bool) {l:List UInt8} {i:Nat} (h:l.length≤i):run p l i=0:=by
 unfold run;rw [List.drop_eq_nil_of_le h];rfl
theorem RH (p:UInt8→Bool) (l:List UInt8) (i:Nat) (h:i≤l.length):i+run p l i≤l.length:=by
 unfold run;have:=(List.takeWhile_prefix (l:=l.drop i) p).length_le;rw [List.length_drop] at this;omega
def blanks (l:List UInt8) (i:Nat):Nat:=i+run blank l i
def word (l:List UInt8) (i:Nat):Nat:=run tok l i
theorem Gr (p:UInt8→Bool) (l:List UInt8) (i:Nat):l.drop (i+run p l i)=(l.drop i).dropWhile p:=by
 unfold run;rw [←List.drop_drop];generalize l.drop i=t;induction t with
 | nil=>rfl
 | cons a t ih =>
   rw [List.takeWhile_cons,List.dropWhile_cons];cases p a
   · rfl
   · simpa using ih
theorem RI (p:UInt8→Bool) (l:List UInt8) (i:Nat):(l.drop i).take (run p l i)=(l.drop i).takeWhile p:=by
 unfold run;generalize l.drop i=t;induction t with
 | nil=>rfl
 | cons a t ih =>
   rw [List.takeWhile_cons];cases p a
   · rfl
   · simpa using ih
abbrev nS:=List UInt8×List UInt8
def quo:List UInt8→List UInt8→Option (List UInt8×List UInt8)
 | _,[]=>none
 | acc,c::t=>if c=34 then some (acc,t) else if c=92 then (match t with
  | []=>none
  | d::t'=>quo (acc++[d]) t') else quo (acc++[c]) t
theorem EM (acc:List UInt8):quo acc []=none:=by unfold quo;rfl
theorem MO (acc t:List UInt8):quo acc (34::t)=some (acc,t):=by unfold quo;rw [if_pos rfl]
theorem uJ (acc:List UInt8):quo acc [92]=none:=by unfold quo;rw [if_neg (by decide),if_pos rfl]
theorem Gu (acc:List UInt8) (d:UInt8) (t:List UInt8):quo acc (92::d::t)=quo (acc++[d]) t:=by rw [quo,if_neg (by decide),if_pos rfl]
theorem Gv (acc:List UInt8) (c:UInt8) (t:List UInt8) (h1:c≠34) (h2:c≠92):quo acc (c::t)=quo (acc++[c]) t:=by rw [quo.eq_def];simp only [];rw [if_neg h1,if_neg h2]
theorem Dr (n:Nat):∀ (acc t v r:List UInt8),t.length≤n→quo acc t=some (v,r)→r.length<t.length∧v.length≤acc.length+t.length:=by
 induction n with
 | zero =>
   intro acc t v r h e;obtain rfl:t=[]:=List.eq_nil_of_length_eq_zero (by omega);rw [EM] at e;cases e
 | succ n ih =>
   intro acc t v r h e;cases t with
   | nil=>rw [EM] at e;cases e
   | cons c t =>
     by_cases h1:c=34
     · subst h1;rw [MO] at e;injection e with e;injection e with e1 e2;subst e1;subst e2;simp
     · by_cases h2:c=92
       · subst h2;cases t with
         | nil=>rw [uJ] at e;cases e
         | cons d t =>
           rw [Gu] at e;have:=ih _ _ _ _ (by simp at h ⊢;omega) e;simp at this ⊢;omega
       · rw [Gv _ _ _ h1 h2] at e;have:=ih _ _ _ _ (by simp at h ⊢;omega) e;simp at this ⊢;omega
def val (r:List UInt8):Nat ⊕ (List UInt8×List UInt8) :=
 if r.head? = some 34 then (match quo [] r.tail with
  | none=>.inl 14
  | some x=>.inr x)
 else if r.takeWhile tok=[] then .inl 5 else .inr (r.takeWhile tok,r.dropWhile tok)
def par (r:List UInt8):Nat ⊕ (nS×List UInt8) :=
 if r.head? = some 59 then
  let r2:=r.tail.dropWhile blank
  if r2.takeWhile tok=[] then .inl 5
  else if (r2.dropWhile tok).head? = some 61 then (match val (r2.dropWhile tok).tail with
   | .inl c=>.inl c
   | .inr x=>.inr ((Ch.lower (r2.takeWhile tok),x.1),x.2))
  else .inl 5
 else .inl 5
def oH:Nat→List UInt8→List nS→Nat ⊕ List nS
 | 0,_,acc=>.inr acc
 | n + 1, r, acc =>
   if r.dropWhile blank=[] then .inr acc
   else match par (r.dropWhile blank) with
    | .inl c=>.inl c
    | .inr x=>if acc.any (fun q=>q.1==x.1.1) then .inl 9 else if acc.length=8 then .inl 8 else oH n x.2 (acc++[x.1])
def YX (l:List UInt8):Nat ⊕ (List UInt8×List UInt8) :=
 let r:=l.dropWhile blank
 if r.takeWhile tok=[] then .inl 5
 else if (r.dropWhile tok).head? = some 47 then
  (if (r.dropWhile tok).tail.takeWhile tok = [] then .inl 5
   else .inr (Ch.lower (r.takeWhile tok)++[47]++Ch.lower ((r.dropWhile tok).tail.takeWhile tok),(r.dropWhile tok).tail.dropWhile tok))
 else .inr (Ch.lower (r.takeWhile tok),r.dropWhile tok)
def fin (n:Nat) (wd r:List UInt8) (acc:List nS):Nat ⊕ (List UInt8×List nS):=match oH n r acc with
 | .inl c=>.inl c
 | .inr ps=>.inr (wd,ps)
def dS (l:List UInt8):Nat ⊕ (List UInt8×List nS) :=
 if Ch.aM l=false then .inl 3
 else match YX l with
  | .inl c=>.inl c
  | .inr x=>fin (l.length+1) x.1 x.2 []
/-! ### by places in a text -/
theorem qh (l:List UInt8) (i:Nat):(l.drop i).dropWhile blank=l.drop (blanks l i):=(Gr blank l i).symm
theorem wB (l:List UInt8) (i:Nat):(l.drop i).dropWhile tok=l.drop (i+word l i):=(Gr tok l i).symm
theorem rC (l:List UInt8) (i:Nat):(l.drop i).takeWhile tok=(l.drop i).take (word l i):=(RI tok l i).symm
theorem RJ (l:List UInt8) (i:Nat):(l.drop i).takeWhile tok=[]↔word l i=0:=by
 unfold word run;constructor
 · intro h;rw [h];rfl
 · intro h;exact List.eq_nil_of_length_eq_zero h
theorem wD (l:List UInt8) (i:Nat):((l.drop i).take (word l i)=[])=(word l i=0):=by
 rw [←rC];exact propext (RJ l i)
theorem rD (l:List UInt8) (i:Nat) (h:i≤l.length):blanks l i≤l.length:=RH blank l i h
theorem Dt (l:List UInt8) (i:Nat):i≤blanks l i:=Nat.le_add_right _ _
theorem uK (l:List UInt8) (i:Nat) (h:i≤l.length):i+word l i≤l.length:=RH tok l i h
theorem YZ (l:List UInt8) (i:Nat):val (l.drop i) =
 if l[i]? = some 34 then (match quo [] (l.drop (i+1)) with
  | none=>.inl 14
  | some x=>.inr x)
 else if word l i=0 then .inl 5 else .inr ((l.drop i).take (word l i),l.drop (i+word l i)):=by
 unfold val;simp only [List.head?_drop,List.tail_drop,rC,wB,wD]
theorem Y0 (l:List UInt8) (i:Nat):par (l.drop i) =
 if l[i]? = some 59 then
  (if word l (blanks l (i + 1)) = 0 then .inl 5
   else if l[blanks l (i+1)+word l (blanks l (i+1))]? = some 61 then (match val (l.drop (blanks l (i+1)+word l (blanks l (i+1))+1)) with
    | .inl c=>.inl c
    | .inr x=>.inr ((Ch.lower ((l.drop (blanks l (i+1))).take (word l (blanks l (i+1)))),x.1),x.2))
   else .inl 5)
 else .inl 5:=by
 unfold par;simp only [List.head?_drop,List.tail_drop,qh,wB,rC,wD]
theorem VW (l:List UInt8) (n i:Nat) (acc:List nS) (hi:i≤l.length):oH (n+1) (l.drop i) acc =
 if blanks l i=l.length then .inr acc
 else match par (l.drop (blanks l i)) with
  | .inl c=>.inl c
  | .inr x=>if acc.any (fun q=>q.1==x.1.1) then .inl 9 else if acc.length=8 then .inl 8 else oH n x.2 (acc++[x.1]):=by
 have hb:=rD l i hi;rw [oH,qh];by_cases h:blanks l i=l.length
 · rw [if_pos h,if_pos (by rw [h,List.drop_length])]
 · rw [if_neg h,if_neg (fun e=>h (by have:=congrArg List.length e;rw [List.length_drop] at this;simp at this;omega))]
theorem Y1 (l:List UInt8):YX l =
 if word l (blanks l 0)=0 then .inl 5
 else if l[blanks l 0+word l (blanks l 0)]? = some 47 then
  (if word l (blanks l 0 + word l (blanks l 0) + 1) = 0 then .inl 5
   else .inr (Ch.lower ((l.drop (blanks l 0)).take (word l (blanks l 0)))++[47]++Ch.lower ((l.drop (blanks l 0+word l (blanks l 0)+1)).take (word l (blanks l 0+word l (blanks l 0)+1))),l.drop (blanks l 0+word l (blanks l 0)+1+word l (blanks l 0+word l (blanks l 0)+1))))
 else .inr (Ch.lower ((l.drop (blanks l 0)).take (word l (blanks l 0))),l.drop (blanks l 0+word l (blanks l 0))):=by
 unfold YX;have e:l.dropWhile blank=l.drop (blanks l 0):=by have:=qh l 0;rwa [List.drop_zero] at this
 simp only [e,wB,List.head?_drop,List.tail_drop,rC,wD]
theorem RL (l:List UInt8) (hv:Ch.aM l=true) (i0 n0:Nat) (hi:blanks l 0=i0) (hn:word l i0=n0):dS l =
 if n0=0 then .inl 5
 else if l[i0+n0]? = some 47 then
  (if word l (i0 + n0 + 1) = 0 then .inl 5
   else fin (l.length+1) (Ch.lower ((l.drop i0).take n0)++[47]++Ch.lower ((l.drop (i0+n0+1)).take (word l (i0+n0+1)))) (l.drop (i0+n0+1+word l (i0+n0+1))) [])
 else fin (l.length+1) (Ch.lower ((l.drop i0).take n0)) (l.drop (i0+n0)) []:=by
 unfold dS;rw [if_neg (by rw [hv];simp),Y1,hi,hn];by_cases h:n0=0
 · rw [if_pos h,if_pos h]
 · rw [if_neg h,if_neg h];by_cases h47:l[i0+n0]? = some 47
   · rw [if_pos h47,if_pos h47];by_cases h2:word l (i0+n0+1)=0
     · rw [if_pos h2,if_pos h2]
     · rw [if_neg h2,if_neg h2]
   · rw [if_neg h47,if_neg h47]
theorem fin_at (l:List UInt8) (n i:Nat) (wd:List UInt8) (acc:List nS) (hi:i≤l.length):fin (n+1) wd (l.drop i) acc =
 if blanks l i=l.length then .inr (wd,acc)
 else match par (l.drop (blanks l i)) with
  | .inl c=>.inl c
  | .inr x=>if acc.any (fun q=>q.1==x.1.1) then .inl 9 else if acc.length=8 then .inl 8 else fin n wd x.2 (acc++[x.1]):=by
 unfold fin;rw [VW l n i acc hi];by_cases h:blanks l i=l.length
 · rw [if_pos h,if_pos h]
 · rw [if_neg h,if_neg h];cases par (l.drop (blanks l i)) with
   | inl c=>rfl
   | inr x =>
     simp only [];by_cases h1:(acc.any fun q=>q.1==x.1.1)=true
     · rw [if_pos h1,if_pos h1]
     · rw [if_neg h1,if_neg h1];by_cases h2:acc.length=8
       · rw [if_pos h2,if_pos h2]
       · rw [if_neg h2,if_neg h2]
end Go.Proofs.YtjmndjmhjleabaaGreatDoor.Pm
namespace Go.Proofs.YtjmndjmhjleabaaGreatDoor.Rp
def tab:List (Int×List UInt8):=[(200,[79,75]),(201,[67,114,101,97,116,101,100]),(204,[78,111,32,67,111,110,116,101,110,116]),(400,[66,97,100,32,82,101,113,117,101,115,116]),(404,[78,111,116,32,70,111,117,110,100]),(405,[77,101,116,104,111,100,32,78,111,116,32,65,108,108,111,119,101,100]),(409,[67,111,110,102,108,105,99,116]),(412,[80,114,101,99,111,110,100,105,116,105,111,110,32,70,97,105,108,101,100]),(413,[67,111,110,116,101,110,116,32,84,111,111,32,76,97,114,103,101]),(415,[85,110,115,117,112,112,111,114,116,101,100,32,77,101,100,105,97,32,84,121,112,101]),(507,[73,110,115,117,102,102,105,99,105,101,110,116,32,83,116,111,114,97,103,101])]
def look:List (Int×List UInt8)→Int→List UInt8
 | [],_=>[]
 | p::t,n=>if p.1=n then p.2 else look t n
def word (n:Int):List UInt8:=look tab n
theorem ze:∀ (l:List (Int×List UInt8)) (n:Int),(∀ p∈l,p.1≠n)→look l n=[]
 | [],_,_=>rfl
 | p::t,n,hn=>by rw [look,if_neg (hn p (by simp)),ze t n (fun q hq=>hn q (by simp [hq]))]
theorem RX {n:Int} (h:word n≠[]):200≤n∧n≤507:=by
 by_cases hn:∀ p∈tab,p.1≠n
 · exact absurd (ze tab n hn) h
 · have:∃ p,p∈tab∧p.1=n:=by
    apply Classical.byContradiction;intro hc;exact hn (fun p hp e=>hc ⟨p,hp,e⟩)
   obtain ⟨p,hp,rfl⟩:=this;have hall:∀ q∈tab,200≤q.1∧q.1≤507:=by decide
   exact hall p hp
theorem Gx (n:Int):(word n).length≤22:=by
 by_cases hn:∀ p∈tab,p.1≠n
 · rw [word,ze tab n hn];decide
 · have:∃ p,p∈tab∧p.1=n:=by
    apply Classical.byContradiction;intro hc;exact hn (fun p hp e=>hc ⟨p,hp,e⟩)
   obtain ⟨p,hp,rfl⟩:=this;have hall:∀ q∈tab,(look tab q.1).length≤22:=by decide
   exact hall p hp
def ko (p:ByteArray×ByteArray):List UInt8:=(Fd.text p.1.data.toList p.2.data.toList).1++[13,10]
def code:List (ByteArray×ByteArray)→Nat
 | []=>0
 | p::t=>if (Fd.text p.1.data.toList p.2.data.toList).2≠0 then (Fd.text p.1.data.toList p.2.data.toList).2 else code t
theorem Dv:∀ (l:List (ByteArray×ByteArray)),(∀ p∈l,(Fd.text p.1.data.toList p.2.data.toList).2=0)→code l=0
 | [],_=>rfl
 | p::t,h=>by rw [code,if_neg (by simpa using h p (by simp)),Dv t (fun q hq=>h q (by simp [hq]))]
theorem Gy:∀ (l:List (ByteArray×ByteArray)) (i:Nat) (hi:i<l.length),(∀ p∈l.take i,(Fd.text p.1.data.toList p.2.data.toList).2=0)→(Fd.text l[i].1.data.toList l[i].2.data.toList).2≠0→code l=(Fd.text l[i].1.data.toList l[i].2.data.toList).2
 | p::t,0,_,_,hc=>by rw [code,if_pos (by simpa using hc)];rfl
 | p :: t, i + 1, hi, hz, hc => by
   rw [code,if_neg (by simpa using hz p (by simp)),Gy t i (by simpa using hi) (fun q hq=>hz q (by simp [hq])) (by simpa using hc)];rfl
def h11:List UInt8:=[72,84,84,80,47,49,46,49,32]
def cl:List UInt8:=[67,111,110,116,101,110,116,45,76,101,110,103,116,104,58,32]
def first (st:Int):List UInt8:=h11++Ch.dh 8 st.toNat++[32]++word st++[13,10]
def text (st:Int) (l:List (ByteArray×ByteArray)) (nv:Nat) (body:List UInt8):List UInt8×Nat :=
 if word st=[] then ([],11) else if 16≤l.length then ([],8) else if nv≠0 then ([],12) else if code l≠0 then ([],code l) else (first st++l.flatMap ko++cl++Ch.dh 8 body.length++[13,10,13,10]++body,0)
end Go.Proofs.YtjmndjmhjleabaaGreatDoor.Rp
namespace Go.Proofs.YtjmndjmhjleabaaGreatDoor.Ck
theorem jX {l:List UInt8} (h:(Ln.of l).size=0):(Ln.of l).code=0∧(Ln.of l).ended=false:=by
 rw [Ln.VP l h];exact ⟨rfl,rfl⟩
theorem uL {l:List UInt8} (h:0<(Ln.of l).size) (hc:(Ln.of l).code=0):(Ln.of l).ended=true:=by
 rcases Ln.yZ l with hk | hk | hk
 · omega
 · exact hk.2
 · exact absurd hc hk.1
theorem wI {s:St} (h:jc s) {l:List UInt8} (ho:(Ln.of l).size=0):Same ⟨[],(Ln.of l).size,false,(Ln.of l).code⟩ (run s l):=by
 obtain ⟨h1,h2,h3⟩:=Rx h l ho;have:=(jX ho).1;exact ⟨h1.symm,h2.symm,by rw [h3];exact this,fun e=>by rcases e with e | e <;> simp_all⟩
theorem Dw:∀ (f:Nat) (l:List UInt8) (s:St),l.length<f→jc s→s.ph=3→Same (trail f l s.count) (run s l)
 | 0,l,s,hf,_,_=>by omega
 | f + 1, l, s, hf, h, h3 => by
   rw [trail];by_cases ho:(Ln.of l).size=0
   · have:=jX ho;rw [if_pos (Or.inr this.2)];exact wI h ho
   · have hp:0<(Ln.of l).size:=by omega
     have hle:=Ln.of_le l;rw [zC h l hp];by_cases hc:(Ln.of l).code=0
     · have he:=uL hp hc;have hn:¬ ((Ln.of l).code≠0∨(Ln.of l).ended=false):=by rw [he,hc];simp
       have hcn:¬ (Ln.of l).code≠0:=by omega
       rw [if_neg hn,if_neg hcn];have hL:line s (Ln.of l).text=if (Ln.of l).text=[] then { s with ph:=4 } else if s.count=16 then { s with code:=8 } else if (Fd.of (Ln.of l).text).code≠0 then { s with code:=(Fd.of (Ln.of l).text).code } else { s with count:=s.count+1 }:=by
        unfold line;rw [if_neg (by omega),if_neg (by omega)]
       by_cases ht:(Ln.of l).text=[]
       · rw [if_pos ht,hL,if_pos ht];have e1:¬ ({ s with ph:=4 }:St).code≠0:=by have:=h.code;simpa using this
         rw [if_neg e1,if_pos rfl];exact Same.refl _
       · rw [if_neg ht,hL,if_neg ht];by_cases h16:s.count=16
         · rw [if_pos h16,if_pos h16,if_pos (show ({ s with code:=8 }:St).code≠0 by show 8≠0;omega)];exact Same.refl _
         · rw [if_neg h16,if_neg h16];by_cases hfc:(Fd.of (Ln.of l).text).code=0
           · have hfn:¬ (Fd.of (Ln.of l).text).code≠0:=by omega
             rw [if_neg hfn,if_neg hfn];have e1:¬ ({ s with count:=s.count+1 }:St).code≠0:=by have:=h.code;simpa using this
             rw [if_neg e1,if_neg (show ¬ ({ s with count:=s.count+1 }:St).ph=4 by show ¬ s.ph=4;omega)];have ih:=Dw f (l.drop (Ln.of l).size) { s with count:=s.count+1 } (by rw [List.length_drop];omega) ⟨h.code,h.ph,h.ln⟩ h3;have:=ih.shift [] (Ln.of l).size;simpa [shift] using this
           · rw [if_pos hfc,if_pos hfc,if_pos (show ({ s with code:=(Fd.of (Ln.of l).text).code }:St).code≠0 from hfc)];exact Same.refl _
     · rw [if_pos (Or.inl hc),if_pos hc];exact Same.refl _
theorem ql:∀ (f:Nat) (l:List UInt8) (s:St),l.length<f→jc s→s.ph=0→s.count=0→Same (go f l s.total) (run s l)
 | 0,l,s,hf,_,_,_=>by omega
 | f + 1, l, s, hf, h, h0, hct => by
   rw [go];by_cases ho:(Ln.of l).size=0
   · have:=jX ho;rw [if_pos (Or.inr this.2)];exact wI h ho
   · have hp:0<(Ln.of l).size:=by omega
     have hle:=Ln.of_le l;rw [zC h l hp];by_cases hc:(Ln.of l).code=0
     · have he:=uL hp hc;have hn:¬ ((Ln.of l).code≠0∨(Ln.of l).ended=false):=by rw [he,hc];simp
       have hcn:¬ (Ln.of l).code≠0:=by omega
       rw [if_neg hn,if_neg hcn];have hL:line s (Ln.of l).text=if (size (Ln.of l).text).2=false then { s with code:=7 } else if 4000<s.total+(size (Ln.of l).text).1.toNat then { s with code:=4 } else if (size (Ln.of l).text).1.toNat=0 then { s with ph:=3 } else { s with ph:=1,left:=(size (Ln.of l).text).1.toNat,total:=s.total+(size (Ln.of l).text).1.toNat }:=by
        unfold line;rw [if_pos h0]
       rw [hL];by_cases h7:(size (Ln.of l).text).2=false
       · rw [if_pos h7,if_pos h7,if_pos (show ({ s with code:=7 }:St).code≠0 by show 7≠0;omega)];exact Same.refl _
       · rw [if_neg h7,if_neg h7];by_cases h4:4000<s.total+(size (Ln.of l).text).1.toNat
         · rw [if_pos h4,if_pos h4,if_pos (show ({ s with code:=4 }:St).code≠0 by show 4≠0;omega)];exact Same.refl _
         · rw [if_neg h4,if_neg h4];by_cases hz:(size (Ln.of l).text).1.toNat=0
           · rw [if_pos hz,if_pos hz];have e1:¬ ({ s with ph:=3 }:St).code≠0:=by have:=h.code;simpa using this
             rw [if_neg e1,if_neg (show ¬ ({ s with ph:=3 }:St).ph=4 by show ¬ 3=4;omega)];have ih:=Dw (f+1) (l.drop (Ln.of l).size) { s with ph:=3 } (by rw [List.length_drop];omega) ⟨h.code,Or.inr (Or.inr rfl),h.ln⟩ rfl;have:=ih.shift [] (Ln.of l).size;have hc0:({ s with ph:=3 }:St).count=0:=hct;rw [hc0] at this;simpa [shift,hct] using this
           · rw [if_neg hz,if_neg hz];have e1:¬ ({ s with ph:=1,left:=(size (Ln.of l).text).1.toNat,total:=s.total+(size (Ln.of l).text).1.toNat }:St).code≠0:=by have:=h.code;simpa using this
             rw [if_neg e1,if_neg (show ¬ ({ s with ph:=1,left:=(size (Ln.of l).text).1.toNat,total:=s.total+(size (Ln.of l).text).1.toNat }:St).ph=4 by show ¬ 1=4;omega)];generalize (size (Ln.of l).text).1.toNat=k at *;obtain ⟨j,rfl⟩:∃ j,k=j+1:=⟨k - 1,by omega⟩;have hdl:(l.drop (Ln.of l).size).length=l.length - (Ln.of l).size:=List.length_drop;generalize hD:l.drop (Ln.of l).size=d at *;generalize (Ln.of l).size=sz at *;have hb:=Dm { s with total:=s.total+(j+1) } h.code j d;have e2:({ ({ s with total:=s.total+(j+1) }:St) with ph:=1,left:=j+1 }:St)={ s with ph:=1,left:=j+1,total:=s.total+(j+1) }:=rfl;rw [e2] at hb;rw [hb];simp only [];by_cases hdk:d.length<j+1
             · rw [if_pos hdk,if_pos hdk];exact ⟨by simp [shift],rfl,rfl,fun e=>by rcases e with e | e <;> simp at e⟩
             · rw [if_neg hdk,if_neg hdk];have hA:jc { s with ph:=2,left:=0,total:=s.total+(j+1) }:=⟨h.code,Or.inr (Or.inl rfl),h.ln⟩;have hel:(d.drop (j+1)).length=d.length - (j+1):=List.length_drop;generalize d.drop (j+1)=e at *;rw [ji,List.nil_append];show Same _ (shift (d.take (j+1)) (sz+(j+1)) (run { s with ph:=2,left:=0,total:=s.total+(j+1) } e));by_cases ho2:(Ln.of e).size=0
               · have ho3:=jX ho2;rw [if_pos (Or.inr ho3.2)];have:=(wI hA ho2).shift (d.take (j+1)) (sz+(j+1));simpa [shift,Nat.add_assoc] using this
               · have hp2:0<(Ln.of e).size:=by omega
                 have hle2:=Ln.of_le e;rw [zC hA e hp2];by_cases hc2:(Ln.of e).code=0
                 · have he2:=uL hp2 hc2;have hn2:¬ ((Ln.of e).code≠0∨(Ln.of e).ended=false):=by rw [he2,hc2];simp
                   have afe:¬ (Ln.of e).code≠0:=by omega
                   rw [if_neg hn2,if_neg afe];have hL2:line { s with ph:=2,left:=0,total:=s.total+(j+1) } (Ln.of e).text=if (Ln.of e).text≠[] then { s with ph:=2,left:=0,total:=s.total+(j+1),code:=5 } else { s with ph:=0,left:=0,total:=s.total+(j+1) }:=by
                    unfold line;rw [if_neg (show ¬ (2:Nat)=0 by omega),if_pos rfl]
                   rw [hL2];by_cases ht:(Ln.of e).text=[]
                   · have htn:¬ (Ln.of e).text≠[]:=fun x=>x ht;rw [if_neg htn,if_neg htn];have e3:¬ ({ s with ph:=0,left:=0,total:=s.total+(j+1) }:St).code≠0:=by have:=h.code;simpa using this
                     rw [if_neg e3,if_neg (show ¬ ({ s with ph:=0,left:=0,total:=s.total+(j+1) }:St).ph=4 by show ¬ 0=4;omega)];have ih:=ql f (e.drop (Ln.of e).size) { s with ph:=0,left:=0,total:=s.total+(j+1) } (by rw [List.length_drop];omega) ⟨h.code,Or.inl rfl,h.ln⟩ rfl hct;have:=(ih.shift [] (Ln.of e).size).shift (d.take (j+1)) (sz+(j+1));simpa [shift,Nat.add_assoc] using this
                   · rw [if_pos ht,if_pos ht,if_pos (show ({ s with ph:=2,left:=0,total:=s.total+(j+1),code:=5 }:St).code≠0 by show 5≠0;omega)];simpa [shift,Nat.add_assoc] using Same.refl (⟨d.take (j+1),sz+(j+1)+(Ln.of e).size,false,5⟩:Told)
                 · rw [if_pos (Or.inl hc2),if_pos hc2];simpa [shift,Nat.add_assoc] using Same.refl (⟨d.take (j+1),sz+(j+1)+(Ln.of e).size,false,(Ln.of e).code⟩:Told)
     · rw [if_pos (Or.inl hc),if_pos hc];exact Same.refl _
theorem of_run (l:List UInt8):Same (of l) (run start l):=ql (l.length+1) l start (by omega) ⟨rfl,Or.inl rfl,rfl⟩ rfl rfl
def over (s:St) (c:UInt8):Bool:=decide (s.code=0∧s.ph≠4∧(next s c).code=0∧(next s c).ph=4)
theorem N8 {s:St} (h:s.code≠0) (c:UInt8):next s c=s:=by unfold next;rw [if_pos h]
theorem Gz:∀ (l:List UInt8) (s:St),((run s l).code≠0∨(run s l).over=true)→1≤(run s l).used∧(run s l).used≤l.length
 | [],s,h=>by rcases h with h | h <;> simp [run] at h
 | c :: t, s, h => by
   rw [run] at h ⊢;split at h
   · rename_i h1;rw [if_pos h1];exact ⟨Nat.le_refl _,by simp⟩
   · rename_i h1;rw [if_neg h1];split at h
     · rename_i h2;rw [if_pos h2];exact ⟨Nat.le_refl _,by simp⟩
     · rename_i h2;rw [if_neg h2];have:=Gz t (next s c) h;simp only [List.length_cons];omega
def pc (s:St):Nat:=if s.code≠0 then s.code else if s.ph=4 then 18 else 0
def nx (s:St):Nat:=if s.ph=0 then 0 else if s.ph=3 then 2 else 1
def lf (s:St):Nat:=if s.ph=1 then s.left else 0
structure Good (s:St):Prop where
 ph:s.ph≤4
 ln:Ln.Good s.ln
 lc:s.ln.code=0
 left:s.ph=1→0<s.left
 EN:s.left≤4000
 total:s.total≤4000
 count:s.count≤16
theorem Good.start:Good start:=⟨Nat.zero_le _,Ln.Good.start,rfl,fun h=>(by cases h),Nat.zero_le _,Nat.zero_le _,Nat.zero_le _⟩
theorem gL {s:St}:pc s=0↔s.code=0∧s.ph≠4:=by
 unfold pc;by_cases h:s.code=0
 · rw [if_neg (fun e=>e h)];by_cases h4:s.ph=4
   · rw [if_pos h4];simp [h4]
   · rw [if_neg h4];simp [h,h4]
 · rw [if_pos h];simp [h]
theorem Good.line {s:St} (h:Good s) (t:List UInt8):Good (line s t):=by
 obtain ⟨h1,h2,h3,h4,h5,h6,h7⟩:=h;unfold Ck.line;split
 · split
   · exact ⟨h1,h2,h3,h4,h5,h6,h7⟩
   · split
     · exact ⟨h1,h2,h3,h4,h5,h6,h7⟩
     · split
       · exact ⟨(by show 3≤4;omega),h2,h3,fun e=>(by have:(3:Nat)=1:=e;omega),h5,h6,h7⟩
       · rename_i _ a b;exact ⟨(by show 1≤4;omega),h2,h3,fun _=>(by show 0<(size t).1.toNat;omega),(by show (size t).1.toNat≤4000;omega),(by show s.total+(size t).1.toNat≤4000;omega),h7⟩
 · split
   · split
     · exact ⟨h1,h2,h3,h4,h5,h6,h7⟩
     · exact ⟨(by show 0≤4;omega),h2,h3,fun e=>(by have:(0:Nat)=1:=e;omega),h5,h6,h7⟩
   · split
     · exact ⟨(by show 4≤4;omega),h2,h3,fun e=>(by have:(4:Nat)=1:=e;omega),h5,h6,h7⟩
     · split
       · exact ⟨h1,h2,h3,h4,h5,h6,h7⟩
       · split
         · exact ⟨h1,h2,h3,h4,h5,h6,h7⟩
         · exact ⟨h1,h2,h3,h4,h5,h6,(by show s.count+1≤16;omega)⟩
theorem Good.next {s:St} (h:Good s) (c:UInt8):Good (next s c):=by
 have hh:=h;obtain ⟨h1,h2,h3,h4,h5,h6,h7⟩:=h;unfold Ck.next;split
 · exact hh
 · split
   · exact ⟨h1,h2,h3,h4,h5,h6,h7⟩
   · split
     · refine ⟨?_,h2,h3,fun e=>?_,(by show s.left - 1≤4000;omega),h6,h7⟩
       · show (if s.left≤1 then 2 else 1)≤4;split <;> omega
       · have e':(if s.left≤1 then 2 else 1)=1:=e;show 0<s.left - 1;split at e' <;> omega
     · split
       · exact ⟨h1,h2,h3,h4,h5,h6,h7⟩
       · split
         · exact Good.line (s:={ s with ln:=Ln.start }) ⟨h1,Ln.Good.start,rfl,h4,h5,h6,h7⟩ _
         · exact ⟨h1,Ln.nV h2,(by rename_i a _;show (Ln.next s.ln c).code=0;omega),h4,h5,h6,h7⟩
theorem N9 {t:List UInt8} (h:∀ b∈t,Ch.ws.contains b=false):Lib.trimS t Ch.ws=t:=by
 have key:∀ u:List UInt8,(∀ b∈u,Ch.ws.contains b=false)→u.dropWhile (Ch.ws.contains ·)=u:=by
  intro u hu;cases u with
  | nil=>rfl
  | cons a v=>rw [List.dropWhile_cons,hu a (List.mem_cons_self ..)];rfl
 unfold Lib.trimS Lib.trimLeftS Lib.trimRightS;rw [key t.reverse (fun b hb=>h b (List.mem_reverse.1 hb)),List.reverse_reverse,key t h]
theorem MP (s:St) (c:UInt8):(out s c).length≤1:=by unfold out;split <;> simp
theorem RY {s:St} {c:UInt8} (h:(next s c).code≠0):out s c=[]:=by
 unfold out;rw [if_neg];rintro ⟨h0,h1⟩;apply h;unfold next;rw [if_neg (by omega),if_neg (by omega),if_pos h1];exact h0
theorem V3 (b:List UInt8) (h:(of b).code≠0∨(of b).over=true):1≤(of b).used∧(of b).used≤b.length:=by
 have hs:=of_run b;rw [hs.used h];refine Gz b start ?_;rw [←hs.code,←hs.over];exact h
end Go.Proofs.YtjmndjmhjleabaaGreatDoor.Ck
namespace Go.Proofs.YtjmndjmhjleabaaGreatDoor
open Go.RowKit
theorem qw (l:List UInt8):(Lib.trimS l Ch.ws).length≤l.length:=by
 unfold Lib.trimS Lib.trimLeftS Lib.trimRightS;have h1:=(List.dropWhile_suffix (l:=(l.reverse.dropWhile (Ch.ws.contains ·)).reverse) (Ch.ws.contains ·)).length_le;have h2:=(List.dropWhile_suffix (l:=l.reverse) (Ch.ws.contains ·)).length_le;simp only [List.length_reverse] at h1 h2;omega
end Go.Proofs.YtjmndjmhjleabaaGreatDoor
namespace Go.Proofs.YtjmndjmhjleabaaGreatDoor.Fd
theorem Sd (l:List UInt8) (c:UInt8):(Lib.indexByte l c=-1∧at_ c l=l.length)∨(Lib.indexByte l c=(at_ c l:Int)∧at_ c l<l.length):=by
 by_cases h:Lib.indexByte l c=-1
 · refine Or.inl ⟨h,ML fun j hj e=>?_⟩;exact Lib.indexByte_none h j (by rw [List.getElem?_eq_getElem hj,e])
 · have hge:=Lib.indexByte_ge l c;obtain ⟨o,ho⟩:∃ o:Nat,Lib.indexByte l c=o:=⟨(Lib.indexByte l c).toNat,by omega⟩;obtain ⟨h1,h2⟩:=Lib.indexByte_some ho;obtain ⟨hlt,he⟩:=List.getElem?_eq_some_iff.1 h1;have:at_ c l=o:=X7 hlt he fun j hj e=>h2 j hj (by rw [List.getElem?_eq_getElem (by omega),e]);refine Or.inr ⟨by rw [ho,this],by omega⟩
theorem nM (p q:UInt8→Bool) (h:∀ b,q b=true→p b=true):∀ l:List UInt8,(l.dropWhile q).all p=l.all p
 | []=>rfl
 | a :: t => by
   rw [List.dropWhile_cons];cases hq:q a
   · rfl
   · rw [if_pos rfl,nM p q h t,List.all_cons,h a hq];rfl
theorem MU (b:UInt8) (h:Ch.ws.contains b=true):Ch.visible b.toNat=true:=by
 have hb:=b.toNat_lt;have:=(show ∀ n:Fin 256,Ch.ws.contains n.val.toUInt8=true→Ch.visible ((n.val.toUInt8).toNat:Int)=true by decide +kernel) ⟨b.toNat,hb⟩;have e:b.toNat.toUInt8=b:=by simp
 simp only [e] at this;exact this h
theorem Oi (l:List UInt8):Ch.aM (Lib.trimS l Ch.ws)=Ch.aM l:=by
 unfold Ch.aM Lib.trimS Lib.trimLeftS Lib.trimRightS;rw [nM _ _ MU,List.all_reverse,nM _ _ MU,List.all_reverse]
theorem V7 (l:List UInt8):of l=if at_ 58 l=l.length then bad 5
 else if Ch.isToken (l.take (at_ 58 l))=false then bad 6
 else if 40<at_ 58 l then bad 4
 else if Ch.aM (Lib.trimS (l.drop (at_ 58 l+1)) Ch.ws)=false then bad 3
 else ⟨l.take (at_ 58 l),Lib.trimS (l.drop (at_ 58 l+1)) Ch.ws,0⟩:=by
 unfold of;rw [Oi]
theorem wK (l:List UInt8):(of l).name.length≤l.length∧(of l).value.length≤l.length:=by
 unfold of;split
 · simp [bad]
 · split
   · simp [bad]
   · split
     · simp [bad]
     · split
       · simp [bad]
       · refine ⟨List.length_take_le' ..,?_⟩;have:=qw (l.drop (at_ 58 l+1));rw [List.length_drop] at this;show (Lib.trimS (l.drop (at_ 58 l+1)) Ch.ws).length≤l.length;omega
end Go.Proofs.YtjmndjmhjleabaaGreatDoor.Fd
namespace Go.Proofs.YtjmndjmhjleabaaGreatDoor.Pm
theorem GZ (p:UInt8→Bool) (l:List UInt8):(l.takeWhile p).length≤l.length:=(List.takeWhile_prefix (l:=l) p).length_le
theorem qx (p:UInt8→Bool) (l:List UInt8):(l.dropWhile p).length≤l.length:=(List.dropWhile_suffix (l:=l) p).length_le
theorem MZ (p:UInt8→Bool) (l:List UInt8):(l.takeWhile p).length+(l.dropWhile p).length=l.length:=by
 rw [←List.length_append,List.takeWhile_append_dropWhile]
theorem Wd {r v r':List UInt8} (h:val r=.inr (v,r')):v.length≤r.length∧r'.length≤r.length:=by
 unfold val at h;split at h
 · split at h
   · cases h
   · rename_i x hq;injection h with h;subst h;have:=Dr _ _ _ _ _ (Nat.le_refl _) hq;rw [List.length_tail] at this;simp only [List.length_nil] at this;omega
 · split at h
   · cases h
   · injection h with h;injection h with h1 h2;subst h1;subst h2;exact ⟨GZ _ _,qx _ _⟩
theorem Wh {r r':List UInt8} {p:nS} (h:par r=.inr (p,r')):p.1.length≤r.length∧p.2.length≤r.length∧r'.length≤r.length:=by
 unfold par at h;split at h
 · simp only [] at h;split at h
   · cases h
   · split at h
     · split at h
       · cases h
       · rename_i x hv;injection h with h;injection h with e1 e2;subst e1;subst e2;have h1:=Wd (v:=x.1) (r':=x.2) hv;rw [List.length_tail] at h1;have h2:=qx tok (r.tail.dropWhile blank);have h3:=qx blank r.tail;have h4:=GZ tok (r.tail.dropWhile blank);rw [List.length_tail] at h3;dsimp only;rw [Ch.iJ];omega
     · cases h
 · cases h
theorem G5 (N:Nat):∀ (n:Nat) (r:List UInt8) (acc ps:List nS),r.length≤N→(∀ p∈acc,p.1.length≤N∧p.2.length≤N)→oH n r acc=.inr ps→∀ p∈ps,p.1.length≤N∧p.2.length≤N
 | 0, r, acc, ps, _, ha, h => by
   rw [oH] at h;injection h with h;subst h;exact ha
 | n + 1, r, acc, ps, hr, ha, h => by
   rw [oH] at h;split at h
   · injection h with h;subst h;exact ha
   · split at h
     · cases h
     · rename_i x hx;split at h
       · cases h
       · split at h
         · cases h
         · have hl:=Wh (p:=x.1) (r':=x.2) hx;have hd:=qx blank r;refine G5 N n x.2 _ ps (by omega) (fun p hp=>?_) h;rw [List.mem_append,List.mem_singleton] at hp;rcases hp with hp | rfl
           · exact ha p hp
           · omega
theorem Wi {l wd r:List UInt8} (h:YX l=.inr (wd,r)):wd.length≤l.length∧r.length≤l.length:=by
 unfold YX at h;simp only [] at h;have hd:=qx blank l;have hb:=MZ tok (l.dropWhile blank);split at h
 · cases h
 · split at h
   · rename_i h47;split at h
     · cases h
     · injection h with h;injection h with e1 e2;subst e1;subst e2;have hb2:=MZ tok ((l.dropWhile blank).dropWhile tok).tail;rw [List.length_tail] at hb2;have hp:0<((l.dropWhile blank).dropWhile tok).length:=by
        cases hx:(l.dropWhile blank).dropWhile tok with
        | nil=>rw [hx] at h47;cases h47
        | cons _ _=>simp
       simp only [List.length_append,Ch.iJ,List.length_singleton];omega
   · injection h with h;injection h with e1 e2;subst e1;subst e2;rw [Ch.iJ];omega
theorem wL {l wd:List UInt8} {ps:List nS} (h:dS l=.inr (wd,ps)):wd.length≤l.length∧∀ p∈ps,p.1.length≤l.length∧p.2.length≤l.length:=by
 unfold dS at h;split at h
 · cases h
 · split at h
   · cases h
   · rename_i x hx;unfold fin at h;split at h
     · cases h
     · rename_i ps' hp;injection h with h;injection h with e1 e2;subst e1;subst e2;obtain ⟨g1,g2⟩:=Wi (wd:=x.1) (r:=x.2) hx;exact ⟨g1,G5 l.length _ _ _ _ g2 (fun p hp=>by cases hp) hp⟩
end Go.Proofs.YtjmndjmhjleabaaGreatDoor.Pm
namespace Go.Proofs.YtjmndjmhjleabaaGreatDoor
theorem Ln.Ae (l:List UInt8):∀ (t:List UInt8) (i:Nat),(Ln.go l i t).text.length≤l.length
 | [],i=>Nat.zero_le _
 | c :: t, i => by
   unfold Ln.go;split
   · split
     · exact Nat.zero_le _
     · split
       · show (l.take i).length≤l.length;rw [List.length_take];omega
       · exact Nat.zero_le _
   · split
     · exact Nat.zero_le _
     · split
       · exact Nat.zero_le _
       · split
         · exact Nat.zero_le _
         · exact Ln.Ae l t (i+1)
theorem Ln.oQ (l:List UInt8):(Ln.of l).text.length≤l.length:=Ln.Ae l l 0
namespace Ck
section
variable {f:Nat} {l:List UInt8} {n:Nat}
theorem Kr (h:(Ln.of l).code≠0∨(Ln.of l).ended=false):go (f+1) l n=⟨[],(Ln.of l).size,false,(Ln.of l).code⟩:=by rw [go,if_pos h]
section
variable (h:¬ ((Ln.of l).code≠0∨(Ln.of l).ended=false))
include h
theorem Wp (h1:(size (Ln.of l).text).2=false):go (f+1) l n=⟨[],(Ln.of l).size,false,7⟩:=by rw [go,if_neg h,if_pos h1]
section
variable (h1:(size (Ln.of l).text).2=true)
include h1
theorem Wq (h2:4000<n+(size (Ln.of l).text).1.toNat):go (f+1) l n=⟨[],(Ln.of l).size,false,4⟩:=by rw [go,if_neg h,if_neg (by rw [h1];simp),if_pos h2]
section
variable (h2:¬ 4000<n+(size (Ln.of l).text).1.toNat)
include h2
theorem Ws (h3:(size (Ln.of l).text).1.toNat=0):go (f+1) l n=shift [] (Ln.of l).size (trail (f+1) (l.drop (Ln.of l).size) 0):=by
 rw [go,if_neg h,if_neg (by rw [h1];simp),if_neg h2,if_pos h3];rfl
section
variable (h3:¬ (size (Ln.of l).text).1.toNat=0)
include h3
theorem SK (h4:(l.drop (Ln.of l).size).length<(size (Ln.of l).text).1.toNat):go (f+1) l n=⟨l.drop (Ln.of l).size,(Ln.of l).size+(l.drop (Ln.of l).size).length,false,0⟩:=by
 rw [go,if_neg h,if_neg (by rw [h1];simp),if_neg h2,if_neg h3];simp only [];rw [if_pos h4]
section
variable (h4:¬ (l.drop (Ln.of l).size).length<(size (Ln.of l).text).1.toNat)
include h4
theorem Wt (h5:(Ln.of ((l.drop (Ln.of l).size).drop (size (Ln.of l).text).1.toNat)).code≠0∨(Ln.of ((l.drop (Ln.of l).size).drop (size (Ln.of l).text).1.toNat)).ended=false) :
 go (f+1) l n=⟨(l.drop (Ln.of l).size).take (size (Ln.of l).text).1.toNat,(Ln.of l).size+(size (Ln.of l).text).1.toNat+(Ln.of ((l.drop (Ln.of l).size).drop (size (Ln.of l).text).1.toNat)).size,false,(Ln.of ((l.drop (Ln.of l).size).drop (size (Ln.of l).text).1.toNat)).code⟩:=by
 rw [go,if_neg h,if_neg (by rw [h1];simp),if_neg h2,if_neg h3];simp only [];rw [if_neg h4,if_pos h5]
section
variable (h5:¬ ((Ln.of ((l.drop (Ln.of l).size).drop (size (Ln.of l).text).1.toNat)).code≠0∨(Ln.of ((l.drop (Ln.of l).size).drop (size (Ln.of l).text).1.toNat)).ended=false))
include h5
theorem Wu (h6:(Ln.of ((l.drop (Ln.of l).size).drop (size (Ln.of l).text).1.toNat)).text≠[]) :
 go (f+1) l n=⟨(l.drop (Ln.of l).size).take (size (Ln.of l).text).1.toNat,(Ln.of l).size+(size (Ln.of l).text).1.toNat+(Ln.of ((l.drop (Ln.of l).size).drop (size (Ln.of l).text).1.toNat)).size,false,5⟩:=by
 rw [go,if_neg h,if_neg (by rw [h1];simp),if_neg h2,if_neg h3];simp only [];rw [if_neg h4,if_neg h5,if_pos h6]
theorem Wv (h6:(Ln.of ((l.drop (Ln.of l).size).drop (size (Ln.of l).text).1.toNat)).text=[]) :
 go (f+1) l n=shift ((l.drop (Ln.of l).size).take (size (Ln.of l).text).1.toNat) ((Ln.of l).size+(size (Ln.of l).text).1.toNat+(Ln.of ((l.drop (Ln.of l).size).drop (size (Ln.of l).text).1.toNat)).size) (go f (((l.drop (Ln.of l).size).drop (size (Ln.of l).text).1.toNat).drop (Ln.of ((l.drop (Ln.of l).size).drop (size (Ln.of l).text).1.toNat)).size) (n+(size (Ln.of l).text).1.toNat)):=by
 rw [go,if_neg h,if_neg (by rw [h1];simp),if_neg h2,if_neg h3];simp only [];rw [if_neg h4,if_neg h5,if_neg (fun e=>e h6)];rfl
end
end
end
end
end
end
theorem OD (h:(Ln.of l).code≠0∨(Ln.of l).ended=false):trail (f+1) l n=⟨[],(Ln.of l).size,false,(Ln.of l).code⟩:=by rw [trail,if_pos h]
section
variable (h:¬ ((Ln.of l).code≠0∨(Ln.of l).ended=false))
include h
theorem OE (h1:(Ln.of l).text=[]):trail (f+1) l n=⟨[],(Ln.of l).size,true,0⟩:=by rw [trail,if_neg h,if_pos h1]
section
variable (h1:¬ (Ln.of l).text=[])
include h1
theorem Kt (h2:n=16):trail (f+1) l n=⟨[],(Ln.of l).size,false,8⟩:=by rw [trail,if_neg h,if_neg h1,if_pos h2]
section
variable (h2:¬ n=16)
include h2
theorem Ku (h3:(Fd.of (Ln.of l).text).code≠0):trail (f+1) l n=⟨[],(Ln.of l).size,false,(Fd.of (Ln.of l).text).code⟩:=by rw [trail,if_neg h,if_neg h1,if_neg h2,if_pos h3]
theorem Kv (h3:(Fd.of (Ln.of l).text).code=0):trail (f+1) l n=shift [] (Ln.of l).size (trail f (l.drop (Ln.of l).size) (n+1)):=by
 rw [trail,if_neg h,if_neg h1,if_neg h2,if_neg (fun e=>e h3)];rfl
end
end
end
end
end Ck
theorem Af (t:List UInt8):0≤(Ck.size t).1∧(Ck.size t).1<68719476736:=by
 unfold Ck.size;generalize Lib.trimS (t.take (Fd.at_ 59 t)) Ch.ws=l;unfold Ch.number;split
 · exact ⟨Int.le_refl _,by decide⟩
 · split
   · rename_i h1 h2;have hl:¬ (6:Int)<l.length:=fun e=>h1 (Or.inr e);exact Ch.gY 16 (by omega) (by omega) l h2 (by omega)
   · exact ⟨Int.le_refl _,by decide⟩
end Go.Proofs.YtjmndjmhjleabaaGreatDoor