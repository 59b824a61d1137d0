/- Small texts, one behind the other: StAny, StAnyB, RqTgt. -/
import Derived.Test.YtjmndjmhjleabaaGreatDoorShelf
import Derived.Test.YtjmndjmhjleabaaGreatDoorPk5
import Derived.Handy
import Derived.Deep.RegionHeld3
open Go.Value renaming int->I,string->V
open Go.Ending renaming returned->Y
open Option renaming some->M
open Bool renaming false->F
open Go renaming World->X
set_option maxHeartbeats 4000000
set_option maxRecDepth 100000
open Go.Proofs.Tryz
namespace Go.Proofs.YtjmndjmhjleabaaGreatDoor
open Go.RowKit
theorem count_one (s:av)(c:UInt8)(w:X):
 Calls prog 186 #[V s,V ⟨#[c]⟩] w fun e w'=>e=Y (I .i64 ((s.data.toList.count c:Nat):Int))∧w'=w:=Any.strings_Count_one Tryz.lays138 s c w
theorem Pk (s:av)(w:X):
 Calls prog 49 #[V s,V ⟨#[47]⟩] w fun e w'=>e=Y (.bool (decide (s.data.toList.head? = M 47)))∧w'=w:=by
 have h:=Any.strings_HasPrefix Tryz.lays99 s ⟨#[47]⟩ w;have e:Lib.hasPrefix s.data.toList [47]=decide (s.data.toList.head? = M 47):=by
  unfold Lib.hasPrefix;cases s.data.toList with
  | nil=>rfl
  | cons a t =>
    have:(47==a)=decide (a=47):=by rw[aG,aS,bQ];exact eq_comm
    simpa[List.isPrefixOf] using this
 rw[<-e];exact h
theorem ME (w:X)(n:Nat):Below w.heap.size w (w.drewN n).drew:=(iT ⟨n,rfl⟩).trans ⟨rfl,rfl,rfl,aL _,fun _ _=>rfl⟩
theorem Fg (w:X)(s:av)(i:Nat):Below w.heap.size w (w.iter s i):=(fI _ _).alloc (aL _) _
theorem Pn (s:av)(i:Nat)(h:i<s.size)(ha:128<=(s[i]'h).toNat):
 128<=(Utf8.decode s i).1∧Utf8.valid ((Utf8.decode s i).1:Int)=true∧1<=(Utf8.decode s i).2∧i+(Utf8.decode s i).2<=s.size∧∀k,k<(Utf8.decode s i).2->128<=(s.get! (i+k)).toNat:=by
 have e:¬(s[i]'h).toNat<128:=by omega
 have f:128<=(s.get! (i+0)).toNat:=by rw[get_at s i h];exact ha
 have b:∀k,(s.get! (i+k)).toNat<256:=fun k=>(s.get! (i+k)).toNat_lt;have j:=b 1;have l:=b 2;have m:=b 3;have g:=b 0
 simp only[Utf8.decode,get_at s i h,e,if_false];rw[get_at s i h] at f g;have one:128<=Utf8.runeError∧Utf8.valid (Utf8.runeError:Int)=true∧1<=1∧i+1<=s.size∧∀k,k<1->128<=(s.get! (i+k)).toNat :=
  ⟨by decide, by decide, aL _, h, fun k a => by
   obtain rfl:k=0:=by omega
   rw[get_at s i h];exact ha⟩
 split
 . rename_i c;simp only[cZ,aS,bQ] at c;split
   . rename_i d;refine⟨d,?_,by omega,by omega,fun k a=>?_⟩
     . simp only[Utf8.valid,Bool.or_eq_true,cZ,bQ];omega
     . match k,a with
       | 0,_=>rw[get_at s i h];exact ha
       | 1,_=>omega
   . exact one
 . split
   . rename_i c;simp only[cZ,aS,bQ] at c;split
     . rename_i d;simp only[cZ,bQ] at d;refine⟨by omega,d.2,by omega,by omega,fun k a=>?_⟩;match k,a with
       | 0,_=>rw[get_at s i h];exact ha
       | 1,_=>omega
       | 2,_=>omega
     . exact one
   . split
     . rename_i c;simp only[cZ,aS,bQ] at c;split
       . rename_i d;simp only[cZ,bQ] at d;refine⟨by omega,d.2,by omega,by omega,fun k a=>?_⟩;match k,a with
         | 0,_=>rw[get_at s i h];exact ha
         | 1,_=>omega
         | 2,_=>omega
         | 3,_=>omega
       . exact one
     . exact one
theorem Gf (r:Int)(w:X)(c:128<=r)(a:r<55296∨57344<=r∧r<=1114111):
 Calls prog 302 #[I .i32 r] w fun e w'=>e=Y (.bool true)∧w'=w:=by
 have d:decide ((0:Int)<=r)=true:=aH (by omega);rcases a with h | h
 . have b:decide (r<55296)=true:=aH h;go_enter func302,ntmps302;go_wp2;go_ret;exact⟨rfl,rfl⟩
 . have b:decide (r<55296)=F:=aI (by omega);have f:decide ((57343:Int)<r)=true:=aH (by omega);have g:decide (r<=1114111)=true:=aH h.2;clear h;go_enter func302,ntmps302;go_wp2;go_ret;exact⟨rfl,rfl⟩
theorem XL (r:Int)(w:X)(q:128<=r)(k:Utf8.valid r=true):
 Calls prog 286 #[V ⟨#[32,9]⟩,I .i32 r] w fun e w'=>e=Y (I .i64 (-1))∧Below w.heap.size w w':=by
 have N:decide ((0:Int)<=r)=true:=aH (by omega);have O:decide (r<128)=F:=aI (by omega);by_cases l:r=65533
 . subst l;have S:=fun d=>run_next_ascii (P:=prog) w ⟨#[32,9]⟩ 0 d (by decide) (by decide);have T:=fun d=>run_next_ascii (P:=prog) w ⟨#[32,9]⟩ 1 d (by decide) (by decide);have n2:=fun d=>run_next_end (P:=prog) w ⟨#[32,9]⟩ 2 d (by decide);go_enter func286,ntmps286;go_wp2;go_loopg [5,6] 3 (fun g _ _ u=>∃i:Nat,i+g=3∧1<=g∧u=w.iter ⟨#[32,9]⟩ i)
   case atStart=>exact⟨0,by omega,by omega,rfl⟩
   case round =>
    obtain⟨i,v,y,rfl⟩:=hrel;rcases(by omega:i=0∧gk=3∨i=1∧gk=2∨i=2∧gk=1) with ⟨rfl,rfl⟩ | ⟨rfl,rfl⟩ | ⟨rfl,rfl⟩
    . go_wp2;go_roundg 2
      case measure=>omega
      case rel=>exact⟨1,by omega,by omega,rfl⟩
    . go_wp2;go_roundg 1
      case measure=>omega
      case rel=>exact⟨2,by omega,by omega,rfl⟩
    . go_wp2;go_ret;exact⟨rfl,Fg w _ _⟩
 . have z:(r==65533)=F:=aR.2 l;obtain⟨s,t,m⟩:=encode_facts r k q;obtain⟨b,n⟩:∃b,Utf8.encode r=b:=⟨_,rfl⟩;rw[n] at s t m;have a:r<55296∨57344<=r∧r<=1114111:=by
    simp only[Utf8.valid,Bool.or_eq_true,cZ,bQ] at k;omega
   have f:=H9 (Gf r w q a);clear k a l;by_cases B:b.size=2
   . have j:1<b.size:=by omega
     have C:128<=(b[1]'j).toNat:=by
      have:=m (by omega);simpa only[B] using this
     have D:((((⟨#[32,9]⟩:av)[1]'(by decide)).toNat:Int) != ((b[1]'j).toNat:Int))=true:=by
      rw[cO];have:((⟨#[32,9]⟩:av)[1]'(by decide)).toNat=9:=by decide
      omega
     have G:∀x:UInt8,decide (Lib.indexByte [] x<0)=true:=fun x=>rfl;have p:=H9 (fun(x:av) (c:Int) (W:X)=>yj x c W);clear m C s t;go_enter func286,ntmps286;go_wp2_with fail
     refine f.o.mono ?_;rintro e H ⟨rfl,rfl⟩;go_wp2;go_step3
     go_wp2;go_rounds 1
     go_step3
     go_wp2;go_quiet (fail)
     go_wp2;go_region_with (go_at_call 254;refine(p.o _ _ _).mono ?_;rintro e w2 ⟨rfl,rfl⟩)
     all_goals (go_wp2;simp only[Exit.noGoto,Exit.inBlock,Exit.then];go_ret;exact⟨rfl,ME _ _⟩)
   . have L:decide ((b.size:Int)-1<2)=F:=aI (by omega);go_enter func286,ntmps286;go_wp2_with fail
     refine f.o.mono ?_;rintro e H ⟨rfl,rfl⟩;go_wp2;go_step3
     go_wp2;go_rounds 1
     simp only[Exit.noGoto,Exit.inBlock];go_ret;exact⟨rfl,fI _ _⟩
theorem Ub {s:av}{i n:Nat}(h:Lib.NoAny s.data.toList [32,9] i)(f:∀k,k<n->128<=(s.get! (i+k)).toNat):Lib.NoAny s.data.toList [32,9] (i+n):=by
 intro j b m a;by_cases c:j<i
 . exact h j b c a
 . have:=f (j-i) (by omega);rw[show i+(j-i)=j by omega] at this;have o:j<s.data.size:=by
    have:=(aP.1 a).1;rwa[aN] at this
   have e:s.get! j=b:=by
    have d:s.data[j]? = M b:=by rw[<-a];simp
    have g:s.data[j]! = b:=by
     rw[getElem!_def,d]
    exact g
   rw[e] at this;have l:b≠32:=fun e=>by subst e;exact absurd this (by decide)
   have d:b≠9:=fun e=>by subst e;exact absurd this (by decide)
   simp[l,d]
def Bn (W:X)(k:Nat)(s:av)(p:Nat):X:={ W with heap:=W.heap.setIfInBounds k (.stringIter s p) }
theorem run_next_at {P:Program}(W:X)(k a:Nat)(s:av)(b:TypeId)(c:W.heap[k]? = M (.stringIter s a))(h:a<s.size):
 (Instr.next (.pointer (M ⟨k,0,none⟩)) true b).run P W=.ok (.tuple #[.bool true,I .i64 a,I .i32 (Utf8.decode s a).1]) (Bn W k s (a+(Utf8.decode s a).2)):=by
 simp only[Instr.next,getObj,setObj,Sem.run_bind,Sem.run,c,Result.andThen,h,if_true];simp[goInt,Bn]
theorem Gg {P:Program}(W:X)(k a:Nat)(s:av)(b:TypeId)(c:W.heap[k]? = M (.stringIter s a))(h:¬a<s.size):
 (Instr.next (.pointer (M ⟨k,0,none⟩)) true b).run P W=.ok (.tuple #[.bool F]) W:=by
 simp[Instr.next,getObj,Sem.run,c,h]
theorem IL {W:X}{k a p:Nat}{s:av}(b:W.heap[k]? = M (.stringIter s a)):(Bn W k s p).heap[k]? = M (.stringIter s p):=by
 have c:=(aK.1 b).1;show(W.heap.setIfInBounds k _)[k]? = _;simp[c]
theorem Ai {w W:X}{s:av}{p:Nat}(h:Below w.heap.size w W):Below w.heap.size w (Bn W w.heap.size s p) :=
 ⟨h.os, h.tape, h.output, by show w.heap.size <= (W.heap.setIfInBounds _ _).size; rw[Array.size_setIfInBounds]; exact h.size, fun k a => by
  show(W.heap.setIfInBounds _ _)[k]? = _;rw[Array.getElem?_setIfInBounds_ne (by omega)];exact h.block k a⟩
theorem Fh (s:av)(w:X)(h8:s.size<=8):
 Calls prog 255 #[V s,V ⟨#[32,9]⟩] w fun e w'=>e=Y (I .i64 (Lib.indexAny s.data.toList [32,9]))∧Below w.heap.size w w':=by
 have H:decide ((8:Int)<(s.size:Int))=F:=aI (by omega);have O:=H9 (fun W=>Any.strings_shouldUseASCIISet { Tryz.lays153 with } (s.size:Int) W);have S:=H9 (fun(r:Int) W T h1=>Any.strings_IndexRune_ascii { Tryz.lays153 with } ⟨#[32,9]⟩ r W T h1);change Hid (∀W,Calls prog 287 _ _ _) at O;change Hid (∀(r:Int) (W:X) (T:0<=r) (h1:r<128),Calls prog 286 _ _ _) at S;go_enter func255,ntmps255;go_wp2_with (go_at_call 287;refine(O.o _).mono ?_;rintro e w' ⟨rfl,k⟩;rw[k,H])
 go_loopg [9,10] s.size (fun g _ _ wx=>∃i:Nat,i+g=s.size∧Lib.NoAny s.data.toList [32,9] i∧wx.heap[w.heap.size]? = M (.stringIter s i)∧Below w.heap.size w wx)
 case atStart=>exact⟨0,by omega,Lib.NoAny.zero _ _,World.iter_heap w s 0,Fg w s 0⟩
 case round =>
  obtain⟨i,hig,u,v,y⟩:=hrel;have G:=H9 u;have z:=H9 v;have L:=H9 y
  clear u v y;by_cases m:i<s.size
  . obtain⟨x,t⟩:∃x:UInt8,s[i]'m=x:=⟨_,rfl⟩;have B:s.data.toList[i]? = M x:=by rw[<-t];exact Lib.data_getElem? s i m
    have Hx:=H9 B;clear B;by_cases l:x.toNat<128
    . have d:=fun C=>run_next_at (P:=prog) wr w.heap.size i s C z.o m;rw[decode_ascii s i m (by rw[t];exact l),t] at d;have a:=Lib.contains_iff_indexByte [32,9] x;have q:((x.toNat:Int)).toNat.toUInt8=x:=by simp
      have c:=H9 (Ai (s:=s) (p:=i+1) L.o);have f:=H9 (IL (p:=i+1) z.o);have b:=H9 (S.o (x.toNat:Int) (Bn wr w.heap.size s (i+1)) (by omega) (by omega));rw[q] at b;clear t;cases j:([32,9]:au).contains x
      . rw[j] at a;have D:decide ((0:Int)<=Lib.indexByte [32,9] x)=F:=a.symm;clear a;go_wp2_with (go_at_call 286;refine b.o.mono ?_;rintro e w' ⟨rfl,k⟩;subst k)
        go_roundg (s.size-(i+1))
        case measure=>omega
        case rel=>exact⟨i+1,by omega,G.o.succ Hx.o j,f.o,c.o⟩
      . rw[j] at a;have hge:decide ((0:Int)<=Lib.indexByte [32,9] x)=true:=a.symm;clear a;go_wp2_with (go_at_call 286;refine b.o.mono ?_;rintro e w' ⟨rfl,k⟩;subst k)
        go_ret;exact⟨by rw[Lib.indexAny_hit G.o Hx.o j];rfl,c.o⟩
    . have d:=fun C=>run_next_at (P:=prog) wr w.heap.size i s C z.o m;obtain⟨d1,d2,d3,d4,d5⟩:=Pn s i m (by rw[t];omega);have Zy:=H9 (Ub G.o d5);have c:=H9 (Ai (s:=s) (p:=i+(Utf8.decode s i).2) L.o);have f:=H9 (IL (p:=i+(Utf8.decode s i).2) z.o);have b:=H9 (XL ((Utf8.decode s i).1:Int) (Bn wr w.heap.size s (i+(Utf8.decode s i).2)) (by omega) d2);have N:=H9 (And.intro d3 d4);clear d1 d2 d3 d4 d5 t l;generalize (Utf8.decode s i).1=r at d b;generalize (Utf8.decode s i).2=n at d b Zy c f N;go_wp2_with (go_at_call 286;refine b.o.mono ?_;rintro e w2 ⟨rfl,k⟩;have HW:=H9 k;clear k)
      go_roundg (s.size-(i+n))
      case measure=>have:=N.o;omega
      case rel =>
       have:=N.o;have D:=(aK.1 f.o).1;exact⟨i+n,by omega,Zy.o,(HW.o.block _ D).trans f.o,c.o.trans (HW.o.mono c.o.size)⟩
  . obtain rfl:i=s.size:=by omega
    have d:=fun C=>Gg (P:=prog) wr w.heap.size s.size s C z.o m;go_wp2;go_ret;exact⟨by rw[Lib.indexAny_none (by rw[<-Lib.size_eq];exact G.o)];rfl,L.o⟩
def Rq.blank (l:au):Bool:=l.any fun b=>b==32||b==9
theorem Rq.Cr:∀l:au,decide (0<=Lib.indexAny l [32,9])=Rq.blank l
 | []=>rfl
 | b :: l => by
   have d:=Rq.Cr l;have e:([32,9]:au).contains b=(b==32||b==9):=by
    simp[List.contains,List.elem];cases a:b==32 <;> cases c:b==9 <;> simp
   unfold Lib.indexAny Rq.blank;rw[List.any_cons,e];cases h:(b==32||b==9)
   . simp only[dH,if_false,Bool.false_or];rw[show(l.any fun b=>b==32||b==9)=Rq.blank l from rfl,<-d];have f:=Lib.indexAny_ge [32,9] l;by_cases a:Lib.indexAny l [32,9]=-1
     . rw[a];rfl
     . have c:(Lib.indexAny l [32,9]==-1)=F:=aR.2 a;rw[c];simp only[dH,if_false];rw[decide_eq_decide];omega
   . simp
def Rq.isTarget (l:au):Bool:=decide (l.head? = M 47)&&(!Rq.blank l&&Ch.iw l)
theorem MF:(prog.info? 290).map (fun i=>(i.zero,i.size))=M (M (.agg (Array.replicate 256 (.bool F))),256):=by kernel_rfl
theorem JR (s:av)(w:X)(f:s.size<=1000000):
 Calls prog 255 #[V s,V ⟨#[32,9]⟩] w fun e w'=>e=Y (I .i64 (Lib.indexAny s.data.toList [32,9]))∧Below w.heap.size w w':=by
 by_cases c:s.size<=8
 . exact Fh s w c
 . have a:=Any.strings_IndexAny_long Tryz.lays153 (zero_of_info MF).1 (zero_of_info MF).2 s ⟨#[32,9]⟩ w (by decide) (by omega) (by omega) (by decide) (fun j b d=>by
    have:b∈([32,9]:au):=dK d;simp at this;rcases this with rfl | rfl <;> decide)
   change Calls prog 255 _ _ (fun e w'=>e=Y (I .i64 (Lib.indexAny s.data.toList [32,9]))∧w'=_) at a;refine a.mono ?_;rintro e w' ⟨rfl,rfl⟩;exact⟨rfl,((fI _ _).alloc (aL _) _).alloc (by simp) _⟩
theorem CQ (s:av)(w:X)(b:s.size<=1000000):
 Calls prog 226 #[V s,V ⟨#[32,9]⟩] w fun e w'=>e=Y (.bool (Rq.blank s.data.toList))∧Below w.heap.size w w':=by
 have c:=H9 (JR s w b);have f:=Rq.Cr s.data.toList;go_enter func226,ntmps226;go_wp2_with (go_at_call 255;refine c.o.mono ?_;rintro e g ⟨rfl,a⟩;have d:=H9 a;clear a)
 go_ret;exact⟨rfl,d.o⟩
theorem JU (s:av)(w:X)(j:s.size<=1000000):
 Calls prog 188 #[V s] w fun e w'=>e=Y (.bool (Rq.isTarget s.data.toList))∧Below w.heap.size w w':=by
 have c:=H9 (Pk s w);have d:=H9 (CQ s w j);have g:=H9 (fun W=>kT s W (by unfold maxLen;omega));have b:Hid (Rq.isTarget s.data.toList=(decide (s.data.toList.head? = M 47)&&(!Rq.blank s.data.toList&&Ch.iw s.data.toList))):=rfl;generalize Rq.isTarget s.data.toList=n at b ⊢;generalize Ch.iw s.data.toList=p at g b;generalize Rq.blank s.data.toList=k at d b;generalize decide (s.data.toList.head? = M 47)=l at c b;cases l
 . go_enter func188,ntmps188;go_wp2_with (go_at_call 49;refine c.o.mono ?_;rintro e i ⟨rfl,a⟩;subst a)
   go_ret;exact⟨iA (by rw[b.o];rfl),fI _ _⟩
 . cases k
   . go_enter func188,ntmps188;go_wp2_with (first
      | (go_at_call 49;refine c.o.mono ?_;rintro e i ⟨rfl,a⟩;subst a)
      | (go_at_call 226;refine d.o.mono ?_;rintro e m ⟨rfl,a⟩;have f:=H9 a;clear a)
      | (go_at_call 192;refine(g.o _).mono ?_;rintro e q ⟨rfl,a⟩;subst a))
     go_ret;exact⟨iA (by rw[b.o];simp),f.o⟩
   . go_enter func188,ntmps188;go_wp2_with (first
      | (go_at_call 49;refine c.o.mono ?_;rintro e i ⟨rfl,a⟩;subst a)
      | (go_at_call 226;refine d.o.mono ?_;rintro e m ⟨rfl,a⟩;have f:=H9 a;clear a))
     go_ret;exact⟨iA (by rw[b.o];rfl),f.o⟩
end Go.Proofs.YtjmndjmhjleabaaGreatDoor