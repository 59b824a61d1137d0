import Derived.Test.YtodmelffkfbalaaGreatDoorPk7
import Derived.Test.YtodmelffkfbalaaGreatDoorShelf
import Derived.Handy
import Derived.Deep.RegionHeld3
open Go.Value renaming int->I,string->V
open Go.Ending renaming returned->Y
open Option renaming some->M
open Bool renaming false->F
open Go renaming World->X
set_option maxHeartbeats 4000000
set_option maxRecDepth 100000
open Go.Proofs.Tryz
namespace Go.Proofs.YtodmelffkfbalaaGreatDoor
open Go.RowKit
theorem Hk (s:ae)(c:UInt8)(w:X):
 Calls prog 274 #[V s,V ⟨#[c]⟩] w fun e w'=>e=Y (I .i64 ((s.data.toList.count c:Nat):Int))∧w'=w:=Any.strings_Count_one Tryz.lays138 s c w
theorem Ok (s:ae)(w:X):
 Calls prog 95 #[V s,V ⟨#[47]⟩] w fun e w'=>e=Y (.bool (decide (s.data.toList.head? = M 47)))∧w'=w:=by
 have h:=Any.strings_HasPrefix Tryz.lays99 s ⟨#[47]⟩ w;have e:Lib.hasPrefix s.data.toList [47]=decide (s.data.toList.head? = M 47):=by
  unfold Lib.hasPrefix;cases s.data.toList with
  | nil=>rfl
  | cons a t =>
    have:(47==a)=decide (a=47):=by rw[iM,cR,bR];exact eq_comm
    simpa[List.isPrefixOf] using this
 rw[<-e];exact h
theorem Mm (w:X)(n:Nat):Below w.heap.size w (w.drewN n).drew:=(iZ ⟨n,rfl⟩).trans ⟨rfl,rfl,rfl,ak _,fun _ _=>rfl⟩
theorem C0 (w:X)(s:ae)(i:Nat):Below w.heap.size w (w.iter s i):=(ar _ _).alloc (ak _) _
theorem Ol (s:ae)(i:Nat)(h:i<s.size)(ha:128<=(s[i]'h).toNat):
 128<=(Utf8.decode s i).1∧Utf8.valid ((Utf8.decode s i).1:Int)=true∧1<=(Utf8.decode s i).2∧i+(Utf8.decode s i).2<=s.size∧∀k,k<(Utf8.decode s i).2->128<=(s.get! (i+k)).toNat:=by
 have e:¬(s[i]'h).toNat<128:=by omega
 have f:128<=(s.get! (i+0)).toNat:=by rw[get_at s i h];exact ha
 have b:∀k,(s.get! (i+k)).toNat<256:=fun k=>(s.get! (i+k)).toNat_lt;have j:=b 1;have l:=b 2;have m:=b 3;have g:=b 0
 simp only[Utf8.decode,get_at s i h,e,if_false];rw[get_at s i h] at f g;have one:128<=Utf8.runeError∧Utf8.valid (Utf8.runeError:Int)=true∧1<=1∧i+1<=s.size∧∀k,k<1->128<=(s.get! (i+k)).toNat :=
  ⟨by decide, by decide, ak _, h, fun k a => by
   obtain rfl:k=0:=by omega
   rw[get_at s i h];exact ha⟩
 split
 . rename_i c;simp only[gZ,cR,bR] at c;split
   . rename_i d;refine⟨d,?_,by omega,by omega,fun k a=>?_⟩
     . simp only[Utf8.valid,Bool.or_eq_true,gZ,bR];omega
     . match k,a with
       | 0,_=>rw[get_at s i h];exact ha
       | 1,_=>omega
   . exact one
 . split
   . rename_i c;simp only[gZ,cR,bR] at c;split
     . rename_i d;simp only[gZ,bR] at d;refine⟨by omega,d.2,by omega,by omega,fun k a=>?_⟩;match k,a with
       | 0,_=>rw[get_at s i h];exact ha
       | 1,_=>omega
       | 2,_=>omega
     . exact one
   . split
     . rename_i c;simp only[gZ,cR,bR] at c;split
       . rename_i d;simp only[gZ,bR] at d;refine⟨by omega,d.2,by omega,by omega,fun k a=>?_⟩;match k,a with
         | 0,_=>rw[get_at s i h];exact ha
         | 1,_=>omega
         | 2,_=>omega
         | 3,_=>omega
       . exact one
     . exact one
theorem Ls (r:Int)(w:X)(c:128<=r)(a:r<55296∨57344<=r∧r<=1114111):
 Calls prog 376 #[I .i32 r] w fun e w'=>e=Y (.bool true)∧w'=w:=by
 have d:decide ((0:Int)<=r)=true:=br (by omega);rcases a with h | h
 . have b:decide (r<55296)=true:=br h;go_enter func376,ntmps376;go_wp2;go_ret;exact⟨rfl,rfl⟩
 . have b:decide (r<55296)=F:=ba (by omega);have f:decide ((57343:Int)<r)=true:=br (by omega);have g:decide (r<=1114111)=true:=br h.2;go_enter func376,ntmps376;go_wp2;go_ret;exact⟨rfl,rfl⟩
theorem R7 (r:Int)(w:X)(l:128<=r)(m:Utf8.valid r=true):
 Calls prog 364 #[V ⟨#[32,9]⟩,I .i32 r] w fun e w'=>e=Y (I .i64 (-1))∧Below w.heap.size w w':=by
 have G:decide ((0:Int)<=r)=true:=br (by omega);have H:decide (r<128)=F:=ba (by omega);by_cases n:r=65533
 . subst n;have L:=fun b=>run_next_ascii (P:=prog) w ⟨#[32,9]⟩ 0 b (by decide) (by decide);have N:=fun b=>run_next_ascii (P:=prog) w ⟨#[32,9]⟩ 1 b (by decide) (by decide);have S:=fun b=>run_next_end (P:=prog) w ⟨#[32,9]⟩ 2 b (by decide);go_enter func364,ntmps364;go_wp2;go_loopg [5,6] 3 (fun g _ _ p=>∃i:Nat,i+g=3∧1<=g∧p=w.iter ⟨#[32,9]⟩ i)
   case atStart=>exact⟨0,by omega,by omega,rfl⟩
   case round =>
    obtain⟨i,q,s,rfl⟩:=hrel;rcases(by omega:i=0∧gk=3∨i=1∧gk=2∨i=2∧gk=1) with ⟨rfl,rfl⟩ | ⟨rfl,rfl⟩ | ⟨rfl,rfl⟩
    . go_wp2;go_roundg 2
      case measure=>omega
      case rel=>exact⟨1,by omega,by omega,rfl⟩
    . go_wp2;go_roundg 1
      case measure=>omega
      case rel=>exact⟨2,by omega,by omega,rfl⟩
    . go_wp2;go_ret;exact⟨rfl,C0 w _ _⟩
 . have t:(r==65533)=F:=aQ.2 n;obtain⟨u,v,o⟩:=encode_facts r m l;obtain⟨a,k⟩:∃a,Utf8.encode r=a:=⟨_,rfl⟩;rw[k] at u v o;have d:r<55296∨57344<=r∧r<=1114111:=by
    simp only[Utf8.valid,Bool.or_eq_true,gZ,bR] at m;omega
   have f:=Ls r w l d;by_cases y:a.size=2
   . have j:1<a.size:=by omega
     have T:128<=(a[1]'j).toNat:=by
      have:=o (by omega);simpa only[y] using this
     have z:((((⟨#[32,9]⟩:ae)[1]'(by decide)).toNat:Int) != ((a[1]'j).toNat:Int))=true:=by
      rw[di];have:((⟨#[32,9]⟩:ae)[1]'(by decide)).toNat=9:=by decide
      omega
     have B:∀x:UInt8,decide (Lib.indexByte [] x<0)=true:=fun x=>rfl;go_enter func364,ntmps364;go_wp2_with fail;refine f.mono ?_;rintro e C ⟨rfl,rfl⟩;go_wp2;go_step3
     go_wp2;go_rounds 1
     go_step3
     go_wp2;go_quiet (fail)
     go_wp2;go_region_with (go_at_call 340;refine((fun(x:ae) (c:Int) (W:X)=>Hv x c W) _ _ _).mono ?_;rintro e w2 ⟨rfl,rfl⟩)
     all_goals (go_wp2;simp only[Exit.noGoto,Exit.inBlock,Exit.then];go_ret;exact⟨rfl,Mm _ _⟩)
   . have D:decide ((a.size:Int)-1<2)=F:=ba (by omega);go_enter func364,ntmps364;go_wp2_with fail;refine f.mono ?_;rintro e C ⟨rfl,rfl⟩;go_wp2;go_step3
     go_wp2;go_rounds 1
     simp only[Exit.noGoto,Exit.inBlock];go_ret;exact⟨rfl,ar _ _⟩
theorem Rf {s:ae}{i n:Nat}(h:Lib.NoAny s.data.toList [32,9] i)(f:∀k,k<n->128<=(s.get! (i+k)).toNat):Lib.NoAny s.data.toList [32,9] (i+n):=by
 intro j b m a;by_cases c:j<i
 . exact h j b c a
 . have:=f (j-i) (by omega);rw[show i+(j-i)=j by omega] at this;have o:j<s.data.size:=by
    have:=(fe.1 a).1;rwa[cJ] at this
   have e:s.get! j=b:=by
    have d:s.data[j]? = M b:=by rw[<-a];simp
    have g:s.data[j]! = b:=by
     rw[getElem!_def,d]
    exact g
   rw[e] at this;have l:b≠32:=fun e=>by subst e;exact absurd this (by decide)
   have d:b≠9:=fun e=>by subst e;exact absurd this (by decide)
   simp[l,d]
def rE (W:X)(k:Nat)(s:ae)(p:Nat):X:={ W with heap:=W.heap.setIfInBounds k (.stringIter s p) }
theorem Hp {P:Program}(W:X)(k a:Nat)(s:ae)(b:TypeId)(c:W.heap[k]? = M (.stringIter s a))(h:a<s.size):
 (Instr.next (.pointer (M ⟨k,0,none⟩)) true b).run P W=.ok (.tuple #[.bool true,I .i64 a,I .i32 (Utf8.decode s a).1]) (rE W k s (a+(Utf8.decode s a).2)):=by
 simp only[Instr.next,getObj,setObj,Sem.run_bind,Sem.run,c,Result.andThen,h,if_true];simp[goInt,rE]
theorem KC {P:Program}(W:X)(k a:Nat)(s:ae)(b:TypeId)(c:W.heap[k]? = M (.stringIter s a))(h:¬a<s.size):
 (Instr.next (.pointer (M ⟨k,0,none⟩)) true b).run P W=.ok (.tuple #[.bool F]) W:=by
 simp[Instr.next,getObj,Sem.run,c,h]
theorem Ej {W:X}{k a p:Nat}{s:ae}(b:W.heap[k]? = M (.stringIter s a)):(rE W k s p).heap[k]? = M (.stringIter s p):=by
 have c:=(bO.1 b).1;show(W.heap.setIfInBounds k _)[k]? = _;simp[c]
theorem BU {w W:X}{s:ae}{p:Nat}(h:Below w.heap.size w W):Below w.heap.size w (rE W w.heap.size s p) :=
 ⟨h.os, h.tape, h.output, by show w.heap.size <= (W.heap.setIfInBounds _ _).size; rw[Array.size_setIfInBounds]; exact h.size, fun k a => by
  show(W.heap.setIfInBounds _ _)[k]? = _;rw[Array.getElem?_setIfInBounds_ne (by omega)];exact h.block k a⟩
theorem Jc (s:ae)(w:X)(h8:s.size<=8):
 Calls prog 341 #[V s,V ⟨#[32,9]⟩] w fun e w'=>e=Y (I .i64 (Lib.indexAny s.data.toList [32,9]))∧Below w.heap.size w w':=by
 have D:decide ((8:Int)<(s.size:Int))=F:=ba (by omega);have T:=fun W=>Any.strings_shouldUseASCIISet { Tryz.lays153 with } (s.size:Int) W;have HR:=fun(r:Int) W h0 h1=>Any.strings_IndexRune_ascii { Tryz.lays153 with } ⟨#[32,9]⟩ r W h0 h1;change Hid (∀W,Calls prog 365 _ _ _) at T;change Hid (∀(r:Int) (W:X) (h0:0<=r) (h1:r<128),Calls prog 364 _ _ _) at HR;go_enter func341,ntmps341;go_wp2_with (go_at_call 365;refine(T _).mono ?_;rintro e w' ⟨rfl,k⟩;rw[k,D])
 go_loopg [9,10] s.size (fun g _ _ wx=>∃i:Nat,i+g=s.size∧Lib.NoAny s.data.toList [32,9] i∧wx.heap[w.heap.size]? = M (.stringIter s i)∧Below w.heap.size w wx)
 case atStart=>exact⟨0,by omega,Lib.NoAny.zero _ _,World.iter_heap w s 0,C0 w s 0⟩
 case round =>
  obtain⟨i,hig,G,H,L⟩:=hrel;have B:=G;have q:=aa H;have N:=aa L
  by_cases l:i<s.size
  . obtain⟨x,C⟩:∃x:UInt8,s[i]'l=x:=⟨_,rfl⟩;have t:s.data.toList[i]? = M x:=by rw[<-C];exact Lib.data_getElem? s i l
    by_cases u:x.toNat<128
    . have d:=fun v=>Hp (P:=prog) wr w.heap.size i s v q.o l;rw[decode_ascii s i l (by rw[C];exact u),C] at d;have a:=Lib.contains_iff_indexByte [32,9] x;have m:((x.toNat:Int)).toNat.toUInt8=x:=by simp
      have c:=BU (s:=s) (p:=i+1) N.o;have f:=Ej (p:=i+1) q.o;have b:=HR (x.toNat:Int) (rE wr w.heap.size s (i+1)) (by omega) (by omega);rw[m] at b;cases j:([32,9]:ab).contains x
      . rw[j] at a;have y:=a.symm;clear a;go_wp2_with (go_at_call 364;refine b.mono ?_;rintro e w' ⟨rfl,k⟩;subst k)
        go_roundg (s.size-(i+1))
        case measure=>omega
        case rel=>exact⟨i+1,by omega,B.succ t j,f,c⟩
      . rw[j] at a;have hge:=a.symm;clear a;go_wp2_with (go_at_call 364;refine b.mono ?_;rintro e w' ⟨rfl,k⟩;subst k)
        go_ret;exact⟨by rw[Lib.indexAny_hit B t j];rfl,c⟩
    . have d:=fun v=>Hp (P:=prog) wr w.heap.size i s v q.o l;obtain⟨d1,d2,d3,d4,d5⟩:=Ol s i l (by rw[C];omega);have z:=Rf B d5;have c:=BU (s:=s) (p:=i+(Utf8.decode s i).2) N.o;have f:=Ej (p:=i+(Utf8.decode s i).2) q.o;have b:=R7 ((Utf8.decode s i).1:Int) (rE wr w.heap.size s (i+(Utf8.decode s i).2)) (by omega) d2;have S:=And.intro d3 d4;generalize (Utf8.decode s i).1=r at d b;generalize (Utf8.decode s i).2=n at d b z c f S;go_wp2_with (go_at_call 364;refine b.mono ?_;rintro e w2 ⟨rfl,k⟩;have HW:=aa k;clear k)
      go_roundg (s.size-(i+n))
      case measure=>have:=S;omega
      case rel =>
       have:=S;have y:=(bO.1 f).1;exact⟨i+n,by omega,z,(HW.o.block _ y).trans f,c.trans (HW.o.mono c.size)⟩
  . obtain rfl:i=s.size:=by omega
    have d:=fun v=>KC (P:=prog) wr w.heap.size s.size s v q.o l;go_wp2;go_ret;exact⟨by rw[Lib.indexAny_none (by rw[<-Lib.size_eq];exact B)];rfl,N.o⟩
def mW (l:ab):Bool:=l.any fun b=>b==32||b==9
theorem FV:∀l:ab,decide (0<=Lib.indexAny l [32,9])=mW l
 | []=>rfl
 | b :: l => by
   have d:=FV l;have e:([32,9]:ab).contains b=(b==32||b==9):=by
    simp[List.contains,List.elem];cases a:b==32 <;> cases c:b==9 <;> simp
   unfold Lib.indexAny mW;rw[List.any_cons,e];cases h:(b==32||b==9)
   . simp only[xR,if_false,Bool.false_or];rw[show(l.any fun b=>b==32||b==9)=mW l from rfl,<-d];have f:=Lib.indexAny_ge [32,9] l;by_cases a:Lib.indexAny l [32,9]=-1
     . rw[a];rfl
     . have c:(Lib.indexAny l [32,9]==-1)=F:=aQ.2 a;rw[c];simp only[xR,if_false];rw[decide_eq_decide];omega
   . simp
def iU (l:ab):Bool:=decide (l.head? = M 47)&&(!mW l&&dO l)
theorem EX:(prog.info? 370).map (fun i=>(i.zero,i.size))=M (M (.agg (Array.replicate 256 (.bool F))),256):=by kernel_rfl
theorem Lv (s:ae)(w:X)(f:s.size<=1000000):
 Calls prog 341 #[V s,V ⟨#[32,9]⟩] w fun e w'=>e=Y (I .i64 (Lib.indexAny s.data.toList [32,9]))∧Below w.heap.size w w':=by
 by_cases c:s.size<=8
 . exact Jc s w c
 . have a:=Any.strings_IndexAny_long Tryz.lays153 (zero_of_info EX).1 (zero_of_info EX).2 s ⟨#[32,9]⟩ w (by decide) (by omega) (by omega) (by decide) (fun j b d=>by
    have:=nw d;simp at this;rcases this with rfl | rfl <;> decide)
   change Calls prog 341 _ _ (fun e w'=>e=Y (I .i64 (Lib.indexAny s.data.toList [32,9]))∧w'=_) at a;refine a.mono ?_;rintro e w' ⟨rfl,rfl⟩;exact⟨rfl,((ar _ _).alloc (ak _) _).alloc (by simp) _⟩
theorem I5 (s:ae)(w:X)(b:s.size<=1000000):
 Calls prog 313 #[V s,V ⟨#[32,9]⟩] w fun e w'=>e=Y (.bool (mW s.data.toList))∧Below w.heap.size w w':=by
 have c:=aa (Lv s w b);have f:=FV s.data.toList;go_enter func313,ntmps313;go_wp2_with (go_at_call 341;refine c.o.mono ?_;rintro e g ⟨rfl,a⟩;have d:=aa a;clear a)
 go_ret;exact⟨rfl,d.o⟩
theorem BV (s:ae)(w:X)(j:s.size<=1000000):
 Calls prog 276 #[V s] w fun e w'=>e=Y (.bool (iU s.data.toList))∧Below w.heap.size w w':=by
 have c:=Ok s w;have d:=I5 s w j;have g:=fun W=>rf s W (by unfold maxLen;omega);have b:iU s.data.toList=(decide (s.data.toList.head? = M 47)&&(!mW s.data.toList&&dO s.data.toList)):=rfl;generalize iU s.data.toList=n at b ⊢;generalize dO s.data.toList=p at g b;generalize mW s.data.toList=k at d b;generalize decide (s.data.toList.head? = M 47)=l at c b;cases l
 . go_enter func276,ntmps276;go_wp2_with (go_at_call 95;refine c.mono ?_;rintro e i ⟨rfl,a⟩;subst a)
   go_ret;exact⟨fy (by rw[b];rfl),ar _ _⟩
 . cases k
   . go_enter func276,ntmps276;go_wp2_with (first
      | (go_at_call 95;refine c.mono ?_;rintro e i ⟨rfl,a⟩;subst a)
      | (go_at_call 313;refine d.mono ?_;rintro e m ⟨rfl,a⟩;have f:=aa a;clear a)
      | (go_at_call 280;refine(g _).mono ?_;rintro e q ⟨rfl,a⟩;subst a))
     go_ret;exact⟨fy (by rw[b];simp),f.o⟩
   . go_enter func276,ntmps276;go_wp2_with (first
      | (go_at_call 95;refine c.mono ?_;rintro e i ⟨rfl,a⟩;subst a)
      | (go_at_call 313;refine d.mono ?_;rintro e m ⟨rfl,a⟩;have f:=aa a;clear a))
     go_ret;exact⟨fy (by rw[b];rfl),f.o⟩
