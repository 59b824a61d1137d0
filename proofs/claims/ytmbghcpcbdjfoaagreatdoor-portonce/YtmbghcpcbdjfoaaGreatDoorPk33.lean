import Derived.Handy
import Derived.Test.YtmbghcpcbdjfoaaGreatDoorRqFld
import Derived.Test.YtmbghcpcbdjfoaaGreatDoorPk31
open Go.Value renaming int->I,string->V,slice->Z,pointer->Q
open Go.IntKind renaming i64->J
open Go.Obj renaming cells->K
open Go.Ending renaming returned->Y
open Option renaming none->U,some->M
open Bool renaming false->F
open Or renaming inl->A,inr->R
open Go renaming World->X
set_option maxHeartbeats 4000000
set_option maxRecDepth 100000
open Go.Proofs.Tryz
namespace Go.Proofs.YtmbghcpcbdjfoaaGreatDoor
open Go.RowKit
theorem IG (s:ag)(c:UInt8)(w:X):
 Calls prog 230 #[V s,V ⟨#[c]⟩] w fun e w'=>e=Y (I J ((s.data.toList.count c:Nat):Int))∧w'=w:=Any.strings_Count_one Tryz.lays138 s c w
theorem P7 (s:ag)(w:X):
 Calls prog 70 #[V s,V ⟨#[47]⟩] w fun e w'=>e=Y (.bool (decide (s.data.toList.head? = M 47)))∧w'=w:=by
 have h:=Any.strings_HasPrefix Tryz.lays99 s ⟨#[47]⟩ w;have e:Lib.hasPrefix s.data.toList [47]=decide (s.data.toList.head? = M 47):=by
  unfold Lib.hasPrefix;cases s.data.toList with
  | nil=>rfl
  | cons a t =>
    have:(47==a)=decide (a=47):=by rw[ik,cM,bS];exact eq_comm
    simpa[List.isPrefixOf] using this
 rw[<-e];exact h
theorem MX (w:X)(n:Nat):Below w.heap.size w (w.drewN n).drew:=(jp ⟨n,rfl⟩).trans ⟨rfl,rfl,rfl,ak _,fun _ _=>rfl⟩
theorem Ep (w:X)(s:ag)(i:Nat):Below w.heap.size w (w.iter s i):=(aq _ _).alloc (ak _) _
theorem ON (s:ag)(i:Nat)(h:i<s.size)(ha:128<=(s[i]'h).toNat):
 128<=(Utf8.decode s i).1∧Utf8.valid ((Utf8.decode s i).1:Int)=true∧1<=(Utf8.decode s i).2∧i+(Utf8.decode s i).2<=s.size∧∀k,k<(Utf8.decode s i).2->128<=(s.get! (i+k)).toNat:=by
 have e:¬(s[i]'h).toNat<128:=by omega
 have f:128<=(s.get! (i+0)).toNat:=by rw[get_at s i h];exact ha
 have b:∀k,(s.get! (i+k)).toNat<256:=fun k=>(s.get! (i+k)).toNat_lt;have j:=b 1;have l:=b 2;have m:=b 3;have g:=b 0
 simp only[Utf8.decode,get_at s i h,e,if_false];rw[get_at s i h] at f g;have one:128<=Utf8.runeError∧Utf8.valid (Utf8.runeError:Int)=true∧1<=1∧i+1<=s.size∧∀k,k<1->128<=(s.get! (i+k)).toNat :=
  ⟨by decide, by decide, ak _, h, fun k a => by
   obtain rfl:k=0:=by omega
   rw[get_at s i h];exact ha⟩
 split
 . rename_i c;simp only[gr,cM,bS] at c;split
   . rename_i d;refine⟨d,?_,by omega,by omega,fun k a=>?_⟩
     . simp only[Utf8.valid,Bool.or_eq_true,gr,bS];omega
     . match k,a with
       | 0,_=>rw[get_at s i h];exact ha
       | 1,_=>omega
   . exact one
 . split
   . rename_i c;simp only[gr,cM,bS] at c;split
     . rename_i d;simp only[gr,bS] at d;refine⟨by omega,d.2,by omega,by omega,fun k a=>?_⟩;match k,a with
       | 0,_=>rw[get_at s i h];exact ha
       | 1,_=>omega
       | 2,_=>omega
     . exact one
   . split
     . rename_i c;simp only[gr,cM,bS] at c;split
       . rename_i d;simp only[gr,bS] at d;refine⟨by omega,d.2,by omega,by omega,fun k a=>?_⟩;match k,a with
         | 0,_=>rw[get_at s i h];exact ha
         | 1,_=>omega
         | 2,_=>omega
         | 3,_=>omega
       . exact one
     . exact one
theorem LK (r:Int)(w:X)(c:128<=r)(a:r<55296∨57344<=r∧r<=1114111):
 Calls prog 347 #[I .i32 r] w fun e w'=>e=Y (.bool true)∧w'=w:=by
 have d:decide ((0:Int)<=r)=true:=aV (by omega);rcases a with h | h
 . have b:decide (r<55296)=true:=aV h;go_enter func347,ntmps347;go_wp2;go_ret;exact⟨rfl,rfl⟩
 . have b:decide (r<55296)=F:=aW (by omega);have f:decide ((57343:Int)<r)=true:=aV (by omega);have g:decide (r<=1114111)=true:=aV h.2;go_enter func347,ntmps347;go_wp2;go_ret;exact⟨rfl,rfl⟩
theorem Ts (r:Int)(w:X)(l:128<=r)(m:Utf8.valid r=true):
 Calls prog 331 #[V ⟨#[32,9]⟩,I .i32 r] w fun e w'=>e=Y (I J (-1))∧Below w.heap.size w w':=by
 have G:decide ((0:Int)<=r)=true:=aV (by omega);have H:decide (r<128)=F:=aW (by omega);by_cases n:r=65533
 . subst n;have L:=fun b=>run_next_ascii (P:=prog) w ⟨#[32,9]⟩ 0 b (by decide) (by decide);have N:=fun b=>run_next_ascii (P:=prog) w ⟨#[32,9]⟩ 1 b (by decide) (by decide);have S:=fun b=>run_next_end (P:=prog) w ⟨#[32,9]⟩ 2 b (by decide);go_enter func331,ntmps331;go_wp2;go_loopg [5,6] 3 (fun g _ _ p=>∃i:Nat,i+g=3∧1<=g∧p=w.iter ⟨#[32,9]⟩ i)
   case atStart=>exact⟨0,by omega,by omega,rfl⟩
   case round =>
    obtain⟨i,q,s,rfl⟩:=hrel;rcases(by omega:i=0∧gk=3∨i=1∧gk=2∨i=2∧gk=1) with ⟨rfl,rfl⟩ | ⟨rfl,rfl⟩ | ⟨rfl,rfl⟩
    . go_wp2;go_roundg 2
      case measure=>omega
      case rel=>exact⟨1,by omega,by omega,rfl⟩
    . go_wp2;go_roundg 1
      case measure=>omega
      case rel=>exact⟨2,by omega,by omega,rfl⟩
    . go_wp2;go_ret;exact⟨rfl,Ep w _ _⟩
 . have t:(r==65533)=F:=aO.2 n;obtain⟨u,v,o⟩:=encode_facts r m l;obtain⟨a,k⟩:∃a,Utf8.encode r=a:=⟨_,rfl⟩;rw[k] at u v o;have d:r<55296∨57344<=r∧r<=1114111:=by
    simp only[Utf8.valid,Bool.or_eq_true,gr,bS] at m;omega
   have f:=LK r w l d;by_cases y:a.size=2
   . have j:1<a.size:=by omega
     have T:128<=(a[1]'j).toNat:=by
      have:=o (by omega);simpa only[y] using this
     have z:((((⟨#[32,9]⟩:ag)[1]'(by decide)).toNat:Int) != ((a[1]'j).toNat:Int))=true:=by
      rw[cW];have:((⟨#[32,9]⟩:ag)[1]'(by decide)).toNat=9:=by decide
      omega
     have B:∀x:UInt8,decide (Lib.indexByte [] x<0)=true:=fun x=>rfl;go_enter func331,ntmps331;go_wp2_with fail;refine f.mono ?_;rintro e C ⟨rfl,rfl⟩;go_wp2;go_step3
     go_wp2;go_rounds 1
     go_step3
     go_wp2;go_quiet (fail)
     go_wp2;go_region_with (go_at_call 298;refine((fun(x:ag) (c:Int) (W:X)=>IR x c W) _ _ _).mono ?_;rintro e w2 ⟨rfl,rfl⟩)
     all_goals (go_wp2;simp only[Exit.noGoto,Exit.inBlock,Exit.then];go_ret;exact⟨rfl,MX _ _⟩)
   . have D:decide ((a.size:Int)-1<2)=F:=aW (by omega);go_enter func331,ntmps331;go_wp2_with fail;refine f.mono ?_;rintro e C ⟨rfl,rfl⟩;go_wp2;go_step3
     go_wp2;go_rounds 1
     simp only[Exit.noGoto,Exit.inBlock];go_ret;exact⟨rfl,aq _ _⟩
theorem RV {s:ag}{i n:Nat}(h:Lib.NoAny s.data.toList [32,9] i)(f:∀k,k<n->128<=(s.get! (i+k)).toNat):Lib.NoAny s.data.toList [32,9] (i+n):=by
 intro j b m a;by_cases c:j<i
 . exact h j b c a
 . have:=f (j-i) (by omega);rw[show i+(j-i)=j by omega] at this;have o:j<s.data.size:=by
    have:=(fB.1 a).1;rwa[cy] at this
   have e:s.get! j=b:=by
    have d:s.data[j]? = M b:=by rw[<-a];simp
    have g:s.data[j]! = b:=by
     rw[getElem!_def,d]
    exact g
   rw[e] at this;have l:b≠32:=fun e=>by subst e;exact absurd this (by decide)
   have d:b≠9:=fun e=>by subst e;exact absurd this (by decide)
   simp[l,d]
def su (W:X)(k:Nat)(s:ag)(p:Nat):X:={ W with heap:=W.heap.setIfInBounds k (.stringIter s p) }
theorem IJ {P:Program}(W:X)(k a:Nat)(s:ag)(b:TypeId)(c:W.heap[k]? = M (.stringIter s a))(h:a<s.size):
 (Instr.next (Q (M ⟨k,0,U⟩)) true b).run P W=.ok (.tuple #[.bool true,I J a,I .i32 (Utf8.decode s a).1]) (su W k s (a+(Utf8.decode s a).2)):=by
 simp only[Instr.next,getObj,setObj,Sem.run_bind,Sem.run,c,Result.andThen,h,if_true];simp[goInt,su]
theorem LL {P:Program}(W:X)(k a:Nat)(s:ag)(b:TypeId)(c:W.heap[k]? = M (.stringIter s a))(h:¬a<s.size):
 (Instr.next (Q (M ⟨k,0,U⟩)) true b).run P W=.ok (.tuple #[.bool F]) W:=by
 simp[Instr.next,getObj,Sem.run,c,h]
theorem Ff {W:X}{k a p:Nat}{s:ag}(b:W.heap[k]? = M (.stringIter s a)):(su W k s p).heap[k]? = M (.stringIter s p):=by
 have c:=(bH.1 b).1;show(W.heap.setIfInBounds k _)[k]? = _;simp[c]
theorem CQ {w W:X}{s:ag}{p:Nat}(h:Below w.heap.size w W):Below w.heap.size w (su W w.heap.size s p) :=
 ⟨h.os, h.tape, h.output, by show w.heap.size <= (W.heap.setIfInBounds _ _).size; rw[Array.size_setIfInBounds]; exact h.size, fun k a => by
  show(W.heap.setIfInBounds _ _)[k]? = _;rw[Array.getElem?_setIfInBounds_ne (by omega)];exact h.block k a⟩
theorem KT (s:ag)(w:X)(h8:s.size<=8):
 Calls prog 299 #[V s,V ⟨#[32,9]⟩] w fun e w'=>e=Y (I J (Lib.indexAny s.data.toList [32,9]))∧Below w.heap.size w w':=by
 have D:decide ((8:Int)<(s.size:Int))=F:=aW (by omega);have T:=fun W=>Any.strings_shouldUseASCIISet { Tryz.lays153 with } (s.size:Int) W;have HR:=fun(r:Int) W h0 h1=>Any.strings_IndexRune_ascii { Tryz.lays153 with } ⟨#[32,9]⟩ r W h0 h1;change Hid (∀W,Calls prog 332 _ _ _) at T;change Hid (∀(r:Int) (W:X) (h0:0<=r) (h1:r<128),Calls prog 331 _ _ _) at HR;go_enter func299,ntmps299;go_wp2_with (go_at_call 332;refine(T _).mono ?_;rintro e w' ⟨rfl,k⟩;rw[k,D])
 go_loopg [9,10] s.size (fun g _ _ wx=>∃i:Nat,i+g=s.size∧Lib.NoAny s.data.toList [32,9] i∧wx.heap[w.heap.size]? = M (.stringIter s i)∧Below w.heap.size w wx)
 case atStart=>exact⟨0,by omega,Lib.NoAny.zero _ _,World.iter_heap w s 0,Ep w s 0⟩
 case round =>
  obtain⟨i,hig,G,H,L⟩:=hrel;have B:=G;have q:=aa H;have N:=aa L
  by_cases l:i<s.size
  . obtain⟨x,C⟩:∃x:UInt8,s[i]'l=x:=⟨_,rfl⟩;have t:s.data.toList[i]? = M x:=by rw[<-C];exact Lib.data_getElem? s i l
    by_cases u:x.toNat<128
    . have d:=fun v=>IJ (P:=prog) wr w.heap.size i s v q.o l;rw[decode_ascii s i l (by rw[C];exact u),C] at d;have a:=Lib.contains_iff_indexByte [32,9] x;have m:((x.toNat:Int)).toNat.toUInt8=x:=by simp
      have c:=CQ (s:=s) (p:=i+1) N.o;have f:=Ff (p:=i+1) q.o;have b:=HR (x.toNat:Int) (su wr w.heap.size s (i+1)) (by omega) (by omega);rw[m] at b;cases j:([32,9]:ae).contains x
      . rw[j] at a;have y:=a.symm;clear a;go_wp2_with (go_at_call 331;refine b.mono ?_;rintro e w' ⟨rfl,k⟩;subst k)
        go_roundg (s.size-(i+1))
        case measure=>omega
        case rel=>exact⟨i+1,by omega,B.succ t j,f,c⟩
      . rw[j] at a;have hge:=a.symm;clear a;go_wp2_with (go_at_call 331;refine b.mono ?_;rintro e w' ⟨rfl,k⟩;subst k)
        go_ret;exact⟨by rw[Lib.indexAny_hit B t j];rfl,c⟩
    . have d:=fun v=>IJ (P:=prog) wr w.heap.size i s v q.o l;obtain⟨d1,d2,d3,d4,d5⟩:=ON s i l (by rw[C];omega);have z:=RV B d5;have c:=CQ (s:=s) (p:=i+(Utf8.decode s i).2) N.o;have f:=Ff (p:=i+(Utf8.decode s i).2) q.o;have b:=Ts ((Utf8.decode s i).1:Int) (su wr w.heap.size s (i+(Utf8.decode s i).2)) (by omega) d2;have S:=And.intro d3 d4;generalize (Utf8.decode s i).1=r at d b;generalize (Utf8.decode s i).2=n at d b z c f S;go_wp2_with (go_at_call 331;refine b.mono ?_;rintro e w2 ⟨rfl,k⟩;have HW:=aa k;clear k)
      go_roundg (s.size-(i+n))
      case measure=>have:=S;omega
      case rel =>
       have:=S;have y:=(bH.1 f).1;exact⟨i+n,by omega,z,(HW.o.block _ y).trans f,c.trans (HW.o.mono c.size)⟩
  . obtain rfl:i=s.size:=by omega
    have d:=fun v=>LL (P:=prog) wr w.heap.size s.size s v q.o l;go_wp2;go_ret;exact⟨by rw[Lib.indexAny_none (by rw[<-Lib.size_eq];exact B)];rfl,N.o⟩
def nD (l:ae):Bool:=l.any fun b=>b==32||b==9
theorem Gv:∀l:ae,decide (0<=Lib.indexAny l [32,9])=nD l
 | []=>rfl
 | b :: l => by
   have d:=Gv l;have e:([32,9]:ae).contains b=(b==32||b==9):=by
    simp[List.contains,List.elem];cases a:b==32 <;> cases c:b==9 <;> simp
   unfold Lib.indexAny nD;rw[List.any_cons,e];cases h:(b==32||b==9)
   . simp only[wt,if_false,Bool.false_or];rw[show(l.any fun b=>b==32||b==9)=nD l from rfl,<-d];have f:=Lib.indexAny_ge [32,9] l;by_cases a:Lib.indexAny l [32,9]=-1
     . rw[a];rfl
     . have c:(Lib.indexAny l [32,9]==-1)=F:=aO.2 a;rw[c];simp only[wt,if_false];rw[decide_eq_decide];omega
   . simp
def jh (l:ae):Bool:=decide (l.head? = M 47)&&(!nD l&&cF l)
theorem Fw:(prog.info? 330).map (fun i=>(i.zero,i.size))=M (M (.agg (Array.replicate 256 (.bool F))),256):=by kernel_rfl
theorem Mp (s:ag)(w:X)(f:s.size<=1000000):
 Calls prog 299 #[V s,V ⟨#[32,9]⟩] w fun e w'=>e=Y (I J (Lib.indexAny s.data.toList [32,9]))∧Below w.heap.size w w':=by
 by_cases c:s.size<=8
 . exact KT s w c
 . have a:=Any.strings_IndexAny_long Tryz.lays153 (zero_of_info Fw).1 (zero_of_info Fw).2 s ⟨#[32,9]⟩ w (by decide) (by omega) (by omega) (by decide) (fun j b d=>by
    have:=mm d;simp at this;rcases this with rfl | rfl <;> decide)
   change Calls prog 299 _ _ (fun e w'=>e=Y (I J (Lib.indexAny s.data.toList [32,9]))∧w'=_) at a;refine a.mono ?_;rintro e w' ⟨rfl,rfl⟩;exact⟨rfl,((aq _ _).alloc (ak _) _).alloc (by simp) _⟩
theorem Jt (s:ag)(w:X)(b:s.size<=1000000):
 Calls prog 269 #[V s,V ⟨#[32,9]⟩] w fun e w'=>e=Y (.bool (nD s.data.toList))∧Below w.heap.size w w':=by
 have c:=aa (Mp s w b);have f:=Gv s.data.toList;go_enter func269,ntmps269;go_wp2_with (go_at_call 299;refine c.o.mono ?_;rintro e g ⟨rfl,a⟩;have d:=aa a;clear a)
 go_ret;exact⟨rfl,d.o⟩
theorem CR (s:ag)(w:X)(j:s.size<=1000000):
 Calls prog 232 #[V s] w fun e w'=>e=Y (.bool (jh s.data.toList))∧Below w.heap.size w w':=by
 have c:=P7 s w;have d:=Jt s w j;have g:=fun W=>rH s W (by unfold maxLen;omega);have b:jh s.data.toList=(decide (s.data.toList.head? = M 47)&&(!nD s.data.toList&&cF s.data.toList)):=rfl;generalize jh s.data.toList=n at b ⊢;generalize cF s.data.toList=p at g b;generalize nD s.data.toList=k at d b;generalize decide (s.data.toList.head? = M 47)=l at c b;cases l
 . go_enter func232,ntmps232;go_wp2_with (go_at_call 70;refine c.mono ?_;rintro e i ⟨rfl,a⟩;subst a)
   go_ret;exact⟨dS (by rw[b];rfl),aq _ _⟩
 . cases k
   . go_enter func232,ntmps232;go_wp2_with (first
      | (go_at_call 70;refine c.mono ?_;rintro e i ⟨rfl,a⟩;subst a)
      | (go_at_call 269;refine d.mono ?_;rintro e m ⟨rfl,a⟩;have f:=aa a;clear a)
      | (go_at_call 236;refine(g _).mono ?_;rintro e q ⟨rfl,a⟩;subst a))
     go_ret;exact⟨dS (by rw[b];simp),f.o⟩
   . go_enter func232,ntmps232;go_wp2_with (first
      | (go_at_call 70;refine c.mono ?_;rintro e i ⟨rfl,a⟩;subst a)
      | (go_at_call 269;refine d.mono ?_;rintro e m ⟨rfl,a⟩;have f:=aa a;clear a))
     go_ret;exact⟨dS (by rw[b];rfl),f.o⟩
theorem EN (c:UInt8)(s:ag):∃a b f,kO c s=.tuple #[V a,V b,.bool f]∧b.size<=s.size:=by
 unfold kO;split
 . exact⟨_,_,_,rfl,by show 0<=s.size;omega⟩
 . exact⟨_,_,_,rfl,by rw[ByteArray.size_extract];omega⟩
theorem Hw {c:UInt8}{s:ag}(h:bg c s.data.toList<s.data.toList.length):∃a b,kO c s=.tuple #[V a,V b,.bool true]∧a.data.toList=s.data.toList.take (bg c s.data.toList)∧b.data.toList=s.data.toList.drop (bg c s.data.toList+1):=by
 have d:s.data.toList.length=s.size:=by rw[cy];rfl
 unfold kO;rw[if_neg (by omega)];refine⟨_,_,rfl,?_,?_⟩
 . rw[Lib.extract_data];simp
 . rw[Lib.extract_data,<-d,jy];rw[bV];omega
theorem RW {l:ae}(c:∀b∈l,b≠32)(g:∀b∈l,cG b.toNat=true):jh l=decide (¬(l.head?≠M 47∨9∈l)):=by
 have d:cF l=true:=pm.2 fun b a=>g b a;have f:nD l=decide (9∈l):=by
  unfold nD;rw[ik,List.any_eq_true,bS];constructor
  . rintro ⟨b,a,e⟩;simp at e;rcases e with e | e
    . exact absurd e (c b a)
    . exact e▸a
  . intro h;exact⟨9,h,rfl⟩
 unfold jh;rw[d,f,ik];simp
inductive Bv (w:X)(g:Nat)(lp bd:Value)(t:ae)(e:Ending)(w':X):Prop
 | bad (c:Nat) (he:e=Y (I J (c:Int))) (hf:dw t=.inl c) (hB:Below w.heap.size w w')
 | ok (h:cf) (gh:Nat) (he:e=Y (I J 0)) (hf:dw t=.inr h) (hP:cn w' g lp (Q (M ⟨gh,0,U⟩)) F bd 0) (hH:gw w' (fun k=>w.heap.size<=k) gh h) (hT:al (fun k=>k=g) w w')
theorem OP (w:X)(g:Nat)(k bd:Value)(t:ag)(q:t.size<=2000)(l:t.data.toList.count 32≠2):
 Calls prog 182 #[Q (M ⟨g,0,U⟩),V t] w fun e w'=>Bv w g k bd t.data.toList e w':=by
 obtain⟨a,b,f,m,r⟩:=EN 32 t;obtain⟨s,u,v,n,_⟩:=EN 32 b;have d:=uv t 32 w (by unfold maxLen;omega);have i:=fun W=>uv b 32 W (by unfold maxLen;omega);have j:=fun W=>IG t 32 W;rw[m] at d;simp only[n] at i;have o:=GJ l;have c:(((t.data.toList.count 32:Nat):Int) != 2)=true:=by rw[cW];omega
 generalize t.data.toList.count 32=x at j c;go_enter func182,ntmps182;go_wp2_with fail;refine d.mono ?_;rintro e y ⟨rfl,z,rfl⟩;go_wp2_with fail;refine(i _).mono ?_;rintro e B ⟨rfl,C,rfl⟩;go_wp2_with fail;refine(j _).mono ?_;rintro e D ⟨rfl,p⟩;subst p;go_wp2;go_ret;exact .bad 5 rfl o (jp ⟨_,rfl⟩)
theorem zH {w b:X}{g:Nat}{d bd:Value}{m gt:ag}(j:cn b g d (Q U) F bd 0)(f:Below w.heap.size w b)(l:g<w.heap.size):
 cn ((b.alloc (K #[V m,V gt,I J 0,Z U 0 0,I J 0] 82)).setCell ⟨g,1,U⟩ (Q (M ⟨b.heap.size,0,U⟩))) g d (Q (M ⟨b.heap.size,0,U⟩)) F bd 0 ∧
 gw ((b.alloc (K #[V m,V gt,I J 0,Z U 0 0,I J 0] 82)).setCell ⟨g,1,U⟩ (Q (M ⟨b.heap.size,0,U⟩))) (fun k=>w.heap.size<=k) b.heap.size ⟨m.data.toList,gt.data.toList,0,[],0⟩ ∧
 al (fun k=>k=g) w ((b.alloc (K #[V m,V gt,I J 0,Z U 0 0,I J 0] 82)).setCell ⟨g,1,U⟩ (Q (M ⟨b.heap.size,0,U⟩))):=by
 have c:=f.size;have i:Below b.heap.size b (b.alloc (K #[V m,V gt,I J 0,Z U 0 0,I J 0] 82)):=(aq _ _).alloc (ak _) _;refine⟨(j.a i).E _,?_,?_⟩
 . refine⟨U,0,?_,aG.f _ _ _ _,c,fun a e=>by cases e⟩;rw[qx _ _ _ _ (show b.heap.size≠g by omega),bw];rfl
 . exact(al.d (S:=fun k=>k=g) (f.trans (i.mono c))).a (al.f (fun k=>k=g) _ _ _ rfl) (fun _ e _=>e)
theorem RX {w b:X}{g:Nat}{f bd:Value}{m gt:ag}(l:cn b g f (Q U) F bd 0)(j:Below w.heap.size w b)(n:g<w.heap.size):
 cn (((b.alloc (K #[V m,V gt,I J 0,Z U 0 0,I J 0] 82)).setCell ⟨g,1,U⟩ (Q (M ⟨b.heap.size,0,U⟩))).setCell ⟨b.heap.size,2,U⟩ (I J 1)) g f (Q (M ⟨b.heap.size,0,U⟩)) F bd 0 ∧
 gw (((b.alloc (K #[V m,V gt,I J 0,Z U 0 0,I J 0] 82)).setCell ⟨g,1,U⟩ (Q (M ⟨b.heap.size,0,U⟩))).setCell ⟨b.heap.size,2,U⟩ (I J 1)) (fun k=>w.heap.size<=k) b.heap.size ⟨m.data.toList,gt.data.toList,1,[],0⟩ ∧
 al (fun k=>k=g) w (((b.alloc (K #[V m,V gt,I J 0,Z U 0 0,I J 0] 82)).setCell ⟨g,1,U⟩ (Q (M ⟨b.heap.size,0,U⟩))).setCell ⟨b.heap.size,2,U⟩ (I J 1)):=by
 obtain⟨o,p,q⟩:=zH (m:=m) (gt:=gt) l j n;have c:=j.size;obtain⟨r,s,t,_⟩:=p;refine⟨o.d (al.f (fun k=>k=b.heap.size) _ _ _ rfl) (by omega),?_,?_⟩
 . refine⟨U,0,?_,aG.f _ _ _ _,c,fun a e=>by cases e⟩;have d:((b.alloc (K #[V m,V gt,I J 0,Z U 0 0,I J 0] 82)).setCell ⟨g,1,U⟩ (Q (M ⟨b.heap.size,0,U⟩))).heap[b.heap.size]? = M (K #[V m,V gt,I J 0,Z U 0 0,I J 0] 82 (0,0)):=by
    rw[qx _ _ _ _ (show b.heap.size≠g by omega),bw]
   rw[aQ _ _ 2 _ _ _ d];rfl
 . refine q.a (al.f (fun k=>w.heap.size<=k) _ _ _ c) (fun i e u=>by omega)
theorem RY (w:X)(g:Nat)(lp bd:Value)(t:ag)(hP:cn w g lp (Q U) F bd 0)(ht:t.size<=2000)(hv:∀b∈t.data.toList,cG b.toNat=true)(hc:t.data.toList.count 32=2):
 Calls prog 182 #[Q (M ⟨g,0,U⟩),V t] w fun e w'=>Bv w g lp bd t.data.toList e w':=by
 have hl:t.data.toList.length=t.size:=by rw[cy];rfl
 obtain⟨c1,c2,_⟩:=GD hc;have d:=Gt hc;obtain⟨m,r,e1,hm,hr⟩:=Hw c1;rw[<-hr] at c2 d;obtain⟨gt,v,e2,S,hv2⟩:=Hw c2;rw[<-hm,<-S,<-hv2] at d;have hrl:r.size<=2000:=by
  have:r.data.toList.length=r.size:=by rw[cy];rfl
  rw[hr,bV] at this;omega
 have hgl:gt.size<=2000:=by
  have h1:gt.data.toList.length=gt.size:=by rw[cy];rfl
  have h2:r.data.toList.length=r.size:=by rw[cy];rfl
  rw[S,bP] at h1;omega
 have hml:m.size<=2000:=by
  have h1:m.data.toList.length=m.size:=by rw[cy];rfl
  rw[hm,bP] at h1;omega
 have l:∀b∈gt.data.toList,b≠32∧cG b.toNat=true:=fun b n=>by
  have h32:b≠32:=by rw[S] at n;exact yd b n
  rw[S] at n;have C:=List.mem_of_mem_take n;rw[hr] at C;exact⟨h32,hv b (List.mem_of_mem_drop C)⟩
 have hT:=RW (fun b n=>(l b n).1) (fun b n=>(l b n).2);have x:=uv t 32 w (by unfold maxLen;omega);have y:=fun W=>uv r 32 W (by unfold maxLen;omega);have z:=fun W=>IG t 32 W;rw[e1] at x;simp only[e2] at y;simp only[hc] at z;have o:=fun W=>yY m W (by unfold maxLen;omega);have p:=fun W=>CR gt W (by omega);have XR:=fun W=>pr m W (by omega);have D:=fun W=>pr gt W (by omega);have Zw:=hP.q;have G:(v.toList==[72,84,84,80,47,49,46,49])=decide (v.data.toList=[72,84,84,80,47,49,46,49]):=by rw[Lib.toList_data,ik];simp
 have H:(v.toList==[72,84,84,80,47,49,46,48])=decide (v.data.toList=[72,84,84,80,47,49,46,48]):=by rw[Lib.toList_data,ik];simp
 have L:(([72,84,84,80,47,49,46,49]:ae)==v.toList)=decide (v.data.toList=[72,84,84,80,47,49,46,49]):=by rw[Lib.toList_data,ik,cM,bS];exact eq_comm
 have N:(([72,84,84,80,47,49,46,48]:ae)==v.toList)=decide (v.data.toList=[72,84,84,80,47,49,46,48]):=by rw[Lib.toList_data,ik,cM,bS];exact eq_comm
 unfold BF at d;simp only[hT] at p;cases i:cT m.data.toList
 . rw[i,if_pos rfl] at d;rw[i] at o;go_enter func182,ntmps182;go_wp2_with fail;refine x.mono ?_;rintro e T ⟨rfl,n1,rfl⟩;go_wp2_with fail;refine(y _).mono ?_;rintro e w2 ⟨rfl,n2,rfl⟩;go_wp2_with fail;refine(z _).mono ?_;rintro e w3 ⟨rfl,a⟩;subst a;go_wp2_with fail;refine(o _).mono ?_;rintro e w4 ⟨rfl,a⟩;subst a;go_wp2;go_ret;exact .bad 6 rfl d (jp ⟨_,rfl⟩)
 . rw[i,if_neg (by simp)] at d;rw[i] at o;by_cases j:gt.data.toList.head?≠M 47∨9∈gt.data.toList
   . rw[if_pos j] at d;rw[aW (fun e=>e j)] at p;go_enter func182,ntmps182;go_wp2_with fail;refine x.mono ?_;rintro e T ⟨rfl,n1,rfl⟩;go_wp2_with fail;refine(y _).mono ?_;rintro e w2 ⟨rfl,n2,rfl⟩;go_wp2_with fail;refine(z _).mono ?_;rintro e w3 ⟨rfl,a⟩;subst a;go_wp2_with fail;refine(o _).mono ?_;rintro e w4 ⟨rfl,a⟩;subst a;go_wp2_with fail;refine(p _).mono ?_;rintro e w5 ⟨rfl,f⟩;have q:=(jp ⟨_,rfl⟩).trans (f.mono (ak _));go_wp2;go_ret;exact .bad 5 rfl d q
   . rw[if_neg j] at d;rw[aV j] at p;by_cases h11:v.data.toList=[72,84,84,80,47,49,46,49]
     . rw[if_pos h11] at d;rw[aV h11] at G L;go_enter func182,ntmps182;go_wp2_with fail;refine x.mono ?_;rintro e T ⟨rfl,n1,rfl⟩;go_wp2_with fail;refine(y _).mono ?_;rintro e w2 ⟨rfl,n2,rfl⟩;go_wp2_with fail;refine(z _).mono ?_;rintro e w3 ⟨rfl,a⟩;subst a;go_wp2_with fail;refine(o _).mono ?_;rintro e w4 ⟨rfl,a⟩;subst a;go_wp2_with fail;refine(p _).mono ?_;rintro e w5 ⟨rfl,f⟩;have q:=(jp ⟨_,rfl⟩).trans (f.mono (ak _));go_wp2_with fail;refine(XR _).mono ?_;rintro e w6 ⟨rfl,s⟩;have wB:=ar q s;go_wp2_with fail;refine(D _).mono ?_;rintro e u ⟨rfl,XT⟩;have B:=ar wB XT;have c:=hP.a B;have f1:=(c.a ((aq _ u).alloc (ak _) (K #[V m,V gt,I J 0,Z U 0 0,I J 0] 82))).e 1;have k1:=(c.a ((aq _ u).alloc (ak _) (K #[V m,V gt,I J 0,Z U 0 0,I J 0] 82))).f;have k2:=(zH (m:=m) (gt:=gt) c B Zw).1.f;go_wp2;go_ret;obtain⟨o1,o2,o3⟩:=RX (m:=m) (gt:=gt) c B Zw;exact .ok _ u.heap.size rfl d o1 o2 o3
     . rw[if_neg h11] at d;rw[aW h11] at G L;by_cases k:v.data.toList=[72,84,84,80,47,49,46,48]
       . rw[if_pos k] at d;rw[aV k] at H N;go_enter func182,ntmps182;go_wp2_with fail;refine x.mono ?_;rintro e T ⟨rfl,n1,rfl⟩;go_wp2_with fail;refine(y _).mono ?_;rintro e w2 ⟨rfl,n2,rfl⟩;go_wp2_with fail;refine(z _).mono ?_;rintro e w3 ⟨rfl,a⟩;subst a;go_wp2_with fail;refine(o _).mono ?_;rintro e w4 ⟨rfl,a⟩;subst a;go_wp2_with fail;refine(p _).mono ?_;rintro e w5 ⟨rfl,f⟩;have q:=(jp ⟨_,rfl⟩).trans (f.mono (ak _));go_wp2_with fail;refine(XR _).mono ?_;rintro e w6 ⟨rfl,s⟩;have wB:=ar q s;go_wp2_with fail;refine(D _).mono ?_;rintro e u ⟨rfl,XT⟩;have B:=ar wB XT;have c:=hP.a B;have f1:=(c.a ((aq _ u).alloc (ak _) (K #[V m,V gt,I J 0,Z U 0 0,I J 0] 82))).e 1;have k1:=(c.a ((aq _ u).alloc (ak _) (K #[V m,V gt,I J 0,Z U 0 0,I J 0] 82))).f;go_wp2;go_ret;obtain⟨o1,o2,o3⟩:=zH (m:=m) (gt:=gt) c B Zw;exact .ok _ u.heap.size rfl d o1 o2 o3
       . rw[if_neg k] at d;rw[aW k] at H N;go_enter func182,ntmps182;go_wp2_with fail;refine x.mono ?_;rintro e T ⟨rfl,n1,rfl⟩;go_wp2_with fail;refine(y _).mono ?_;rintro e w2 ⟨rfl,n2,rfl⟩;go_wp2_with fail;refine(z _).mono ?_;rintro e w3 ⟨rfl,a⟩;subst a;go_wp2_with fail;refine(o _).mono ?_;rintro e w4 ⟨rfl,a⟩;subst a;go_wp2_with fail;refine(p _).mono ?_;rintro e w5 ⟨rfl,f⟩;have q:=(jp ⟨_,rfl⟩).trans (f.mono (ak _));go_wp2;go_ret;exact .bad 11 rfl d q
theorem RZ (w:X)(g:Nat)(a bd:Value)(t:ag)(f:cn w g a (Q U) F bd 0)(c:t.size<=2000)(i:∀b∈t.data.toList,cG b.toNat=true):
 Calls prog 182 #[Q (M ⟨g,0,U⟩),V t] w fun e w'=>Bv w g a bd t.data.toList e w':=by
 by_cases d:t.data.toList.count 32=2
 . exact RY w g a bd t f c i d
 . exact OP w g a bd t c d
theorem Py (f:ae):∀(l:List (ae)) (n:Int) (c:Nat),gm f n l=.inl c->c≠0:=by intro l;induction l <;> grind [gm]
theorem Pz {mi:Nat}{a C:List (ae)}{c:Nat}(e:pb mi a C=.inl c):c≠0:=by
 unfold pb qa at e;split at e
 . split at e
   . injection e with e;omega
   . split at e
     . injection e with e;omega
     . cases e
 . split at e
   . rename_i b;injection e with e;subst e;exact Py _ _ _ _ b
   . split at e
     . injection e with e;omega
     . cases e
theorem PC (h:cf):gC h=if 1<(aE eQ (bL h.a)).length∨(aE eQ (bL h.a)).length=0∧h.e=1 then .inl 13 else pb h.e (aZ (aE fg (bL h.a))) (aZ (aE fh (bL h.a))):=by
 rw[GP,PI];have e:∀(b:ag),aU b.data.toList=b.data.toList->bU h.a b.data.toList=aZ (aE b (bL h.a)):=fun b f=>by
  have:=tf (bL h.a) b f;rw[BG] at this;exact this
 have g:=e eQ (by decide);have i:=e fg (by decide);have j:=e fh (by decide);have a:bU h.a mJ=aZ (aE eQ (bL h.a)):=g;have c:bU h.a le=aZ (aE fg (bL h.a)):=i;have d:bU h.a lg=aZ (aE fh (bL h.a)):=j;rw[a,c,d];have k:(aZ (aE eQ (bL h.a))).length=(aE eQ (bL h.a)).length:=by simp[aZ]
 rw[k]
inductive UK (w:X)(S:Nat->Prop)(g gh:Nat)(lp bd:Value)(h:cf)(e:Ending)(w':X):Prop
 | bad (c:Nat) (hc:c≠0) (he:e=Y (I J (c:Int))) (hf:gC h=.inl c) (hP:cn w' g lp (Q (M ⟨gh,0,U⟩)) F bd 0) (hT:al (fun k=>S k∨k=g) w w')
 | ok (k:Int) (he:e=Y (I J 0)) (hf:gC h=.inr k) (hP:cn w' g lp (Q (M ⟨gh,0,U⟩)) true bd 0) (hH:gw w' S gh { h with d:=k }) (hT:al (fun k=>S k∨k=g) w w')
theorem qy {w:X}{S:Nat->Prop}{a:Nat}{h:cf}(k:gw w S a h):w.cell? ⟨a,4,U⟩=M (I J h.d)∧w.frozen? ⟨a,4,U⟩=F:=by
 obtain⟨c,d,b,_⟩:=k;exact⟨am w a 4 _ _ _ b,aD w a 4 _ _ b⟩
theorem xn {w c:X}{S:Nat->Prop}{g a:Nat}{f bd:Value}{h:cf}(n:Int)(b:Bool)(l:Below w.heap.size w c)(m:cn c g f (Q (M ⟨a,0,U⟩)) F bd 0)(o:gw c S a h)(i:¬S g):
 cn ((c.setCell ⟨a,4,U⟩ (I J n)).setCell ⟨g,2,U⟩ (.bool b)) g f (Q (M ⟨a,0,U⟩)) b bd 0∧gw ((c.setCell ⟨a,4,U⟩ (I J n)).setCell ⟨g,2,U⟩ (.bool b)) S a { h with d:=n }∧al (fun k=>S k∨k=g) w ((c.setCell ⟨a,4,U⟩ (I J n)).setCell ⟨g,2,U⟩ (.bool b)):=by
 obtain⟨p,j⟩:=o.f n;have d:=m.d j i;refine⟨d.G b,p.e (al.f (fun k=>k=g) _ _ _ rfl) (fun k q e=>i (e▸q)),?_⟩;exact(al.d (S:=fun k=>S k∨k=g) l).a ((j.e (fun k e=>A e)).a (al.f (fun k=>S k∨k=g) _ _ _ (R rfl)) (fun _ e _=>e)) (fun _ e _=>e)
theorem TG (w:X)(g t:Nat)(lp bd:Value)(S:Nat->Prop)(h:cf)(u:cn w g lp (Q (M ⟨t,0,U⟩)) F bd 0)(hH:gw w S t h)(N:¬S g)(hG:iD h):
 Calls prog 183 #[Q (M ⟨g,0,U⟩)] w fun e w'=>UK w S g t lp bd h e w':=by
 have T:=aa hH;obtain⟨fo,gG,hr,ho,h1,h2⟩:=hH;have c1:=u.f;have c3:w.cell? ⟨t,3,U⟩=M (Z fo h.a.length gG):=am w t 3 _ _ _ hr;have c2:w.cell? ⟨t,2,U⟩=M (I J (h.e:Int)):=am w t 2 _ _ _ hr;have hs:∀p∈bL h.a,p.1.size<=2000∧p.2.size<=2000:=fun p hp=>by
  obtain⟨f,hf,rfl⟩:=jT.1 hp;have:=hG.b f hf;exact⟨by show f.1.toArray.size<=2000;rw[cN];omega,by show f.2.toArray.size<=2000;rw[cN];omega⟩
 have B:(bL h.a).length=h.a.length:=om _;have aoe:=hG.a;have r:=fun W (v:Below w.heap.size w W)=>And.intro ((v.cell (bI w _ c1)).trans c1) (And.intro ((v.cell (bI w _ c2)).trans c2) ((v.cell (bI w _ c3)).trans c3));have s:=zm (bL h.a) vu fo gG h.a.length w ho.a B (by omega) hs (by decide);rw[EO] at s;have x:=fun W (v:Below w.heap.size w W)=>OR t h.e (bL h.a) fo gG h.a.length W (r W v).2.1 (r W v).2.2 (ho.a.a v) B (by omega) hs;have b:=PC h;generalize (aE eQ (bL h.a)).length=H at s b;have l:∀c,pb h.e (aZ (aE fg (bL h.a))) (aZ (aE fh (bL h.a)))=.inl c->c≠0:=fun c e=>Pz e;generalize pb h.e (aZ (aE fg (bL h.a))) (aZ (aE fh (bL h.a)))=aah at x b l;unfold vu at s;by_cases hb:1<H∨H=0∧h.e=1
 . rw[if_pos hb] at b;by_cases hH1:1<H
   . have t1:decide ((H:Int) > 1)=true:=aV (by omega);go_enter func183,ntmps183;go_wp2_with fail;refine s.mono ?_;rintro e i ⟨rfl,a⟩;have C:=(r i a).1;have D:=(r i a).2.1;go_wp2;go_ret;exact .bad 13 (by omega) rfl b (u.a a) (al.d a)
   . have t1:decide ((H:Int) > 1)=F:=aW (by omega);have t0:((H:Int)==0)=true:=cM.2 (by omega);have tm:((h.e:Int)==1)=true:=cM.2 (by omega);go_enter func183,ntmps183;go_wp2_with fail;refine s.mono ?_;rintro e i ⟨rfl,a⟩;have C:=(r i a).1;have D:=(r i a).2.1;go_wp2;go_ret;exact .bad 13 (by omega) rfl b (u.a a) (al.d a)
 . rw[if_neg hb] at b;have t1:decide ((H:Int) > 1)=F:=aW (by omega);have hz:((H:Int)==0)=F∨((H:Int)==0)=true∧((h.e:Int)==1)=F:=by
    by_cases h0:H=0
    . exact R ⟨cM.2 (by omega),aO.2 (by omega)⟩
    . exact A (aO.2 (by omega))
   cases aah with
   | inl c =>
     have tc:((c:Int)==0)=F:=aO.2 (by have:=l c rfl;omega);have G:=l c rfl;unfold op at x;rcases hz with t0 | ⟨t0,tm⟩
     . go_enter func183,ntmps183;go_wp2_with fail;refine s.mono ?_;rintro e i ⟨rfl,a⟩;have C:=(r i a).1;have D:=(r i a).2.1;go_wp2_with fail;refine(x i a).mono ?_;rintro e w2 ⟨rfl,m⟩;have d:=ar a m;have j:=(u.a d);have n:=aa (T.o.d d);have q:=aa d
       have q1:=j.f;have q2:=j.r;have qf:=j.e 2;have m4:=(qy n.o).1;have mf:=(qy n.o).2;go_wp2;go_ret;obtain⟨y,L,z⟩:=xn 0 F q.o j n.o N;exact .bad c G rfl b y z
     . go_enter func183,ntmps183;go_wp2_with fail;refine s.mono ?_;rintro e i ⟨rfl,a⟩;have C:=(r i a).1;have D:=(r i a).2.1;go_wp2_with fail;refine(x i a).mono ?_;rintro e w2 ⟨rfl,m⟩;have d:=ar a m;have j:=(u.a d);have n:=aa (T.o.d d);have q:=aa d
       have q1:=j.f;have q2:=j.r;have qf:=j.e 2;have m4:=(qy n.o).1;have mf:=(qy n.o).2;go_wp2;go_ret;obtain⟨y,L,z⟩:=xn 0 F q.o j n.o N;exact .bad c G rfl b y z
   | inr k =>
     unfold op at x;rcases hz with t0 | ⟨t0,tm⟩
     . go_enter func183,ntmps183;go_wp2_with fail;refine s.mono ?_;rintro e i ⟨rfl,a⟩;have C:=(r i a).1;have D:=(r i a).2.1;go_wp2_with fail;refine(x i a).mono ?_;rintro e w2 ⟨rfl,m⟩;have d:=ar a m;have j:=(u.a d);have n:=aa (T.o.d d);have q:=aa d
       have q1:=j.f;have q2:=j.r;have qf:=j.e 2;have m4:=(qy n.o).1;have mf:=(qy n.o).2;go_wp2;go_ret;obtain⟨y,L,z⟩:=xn k true q.o j n.o N;exact .ok k rfl b y L z
     . go_enter func183,ntmps183;go_wp2_with fail;refine s.mono ?_;rintro e i ⟨rfl,a⟩;have C:=(r i a).1;have D:=(r i a).2.1;go_wp2_with fail;refine(x i a).mono ?_;rintro e w2 ⟨rfl,m⟩;have d:=ar a m;have j:=(u.a d);have n:=aa (T.o.d d);have q:=aa d
       have q1:=j.f;have q2:=j.r;have qf:=j.e 2;have m4:=(qy n.o).1;have mf:=(qy n.o).2;go_wp2;go_ret;obtain⟨y,L,z⟩:=xn k true q.o j n.o N;exact .ok k rfl b y L z
inductive Bw (w:X)(S:Nat->Prop)(g:Nat)(s:bR)(t:ae)(e:Ending)(w':X):Prop
 | quiet (s':bR) (he:e=Y (I J 0)) (hl:iC s t=(s',[])) (hR:dT w' (aB S w) g s') (hT:al S w w')
 | bad (c:Nat) (hc:c≠0) (he:e=Y (I J (c:Int))) (hl:iC s t=(ld s,[.fail c])) (lp hp bd:Value) (hP:cn w' g lp hp F bd 0) (hT:al S w w')
 | whole (k:Int) (gl gh:Nat) (D:Nat->Prop) (he:e=Y (I J 0)) (hk:gC s.c=.inr k) (ht:t=[]) (h1:s.a=1) (hP:cn w' g (Q (M ⟨gl,0,U⟩)) (Q (M ⟨gh,0,U⟩)) true .nilIface 0)
  (hL:cQ w' (fun k=>(S k∧k≠g)∧¬D k) gl s.b) (hH:gw w' (fun k=>(S k∧k≠g)∧D k) gh { s.c with d:=k }) (hT:al S w w')
theorem Er {t:ag}(h:t.data.toList=[]):t=⟨#[]⟩:=by
 have:t.data=#[]:=by
  apply Array.ext';simpa using h
 cases t;simp only at this;rw[this]
theorem ER {t:ag}(h:t.data.toList≠[]):0<t.size:=by
 have a:t.data.toList.length=t.size:=by rw[cy];rfl
 have:=kH.2 h;omega
theorem dT.f {w W:X}{S:Nat->Prop}{g:Nat}{s:bR}(h:dT w S g s):dT w (aB S W) g s:=h.a (fun _ _ e=>A e)
theorem Tv (w:X)(S:Nat->Prop)(g:Nat)(s:bR)(t:ag)(h:dT w S g s)(C:s.a=0)(ht:t.size<=200)(hv:∀b∈t.data.toList,cG b.toNat=true):
 Calls prog 133 #[Q (M ⟨g,0,U⟩),V t] w fun e w'=>Bw w S g s t.data.toList e w':=by
 have HR:=aa h;obtain⟨hg,lp,hpp,bd,code,l,hI⟩:=h;cases hI with
 | dead c hc h4=>omega
 | O0 i G D h1 L H=>omega
 | at2 i gb h2 L hb B=>omega
 | at3 i gb D h3 L B=>omega
 | Le i h0 L =>
   have c1:=l.f;by_cases m:t.data.toList=[]
   . obtain rfl:=Er m;have j:Hid (iC s []=(s,[])):=by unfold Hid iC;rw[if_pos C,if_pos rfl]
     go_enter func133,ntmps133;go_wp2;go_ret;exact .quiet s rfl j.o HR.o.f (al.r _ _)
   . have n:=ER m;have N:=sg t n;have HF:=aa (RZ w g _ _ t l (by omega) hv);have j:Hid (iC s t.data.toList=match dw t.data.toList with | .inl c=>(ld s,[.fail c]) | .inr h=>({ s with a:=1,c:=h },[])):=by
      unfold Hid iC;rw[if_pos C,if_neg m];cases dw t.data.toList <;> rfl
     have T:=l;have p:=aa L;have d:=aa hg
     have q:∀c,dw t.data.toList=.inl c->c≠0:=fun c e=>by
      unfold dw at e;split at e
      . split at e
        . injection e with e;omega
        . split at e
          . injection e with e;omega
          . split at e
            . cases e
            . split at e
              . cases e
              . injection e with e;omega
      . injection e with e;omega
     generalize t.data.toList=tl at *;go_enter func133,ntmps133;go_wp2_with fail;refine HF.o.mono ?_;rintro e w1 (⟨c,rfl,r,hB⟩ | ⟨hd,G,rfl,r,u,v,x⟩)
     . have a:=aa r;have W:=aa hB
       go_wp2;go_ret;refine .bad c (q c a.o) rfl ?_ _ _ _ (T.a W.o) (al.d W.o);rw[j.o,a.o]
     . have a:=aa r;have y:=aa u;have z:=aa v;have f:=aa x
       go_wp2;go_ret;refine .quiet { s with a:=1,c:=hd } rfl (by rw[j.o,a.o]) ⟨A d.o,_,_,_,_,y.o,?_⟩ (f.o.e (fun k e=>by rw[e];exact d.o));refine .O0 i G (fun k=>w.heap.size<=k) rfl ?_ ?_
       . refine((p.o.a (S':=fun k=>(aB S w k∧k≠g)∧¬w.heap.size<=k) (fun k hk e=>⟨⟨A e.1,e.2⟩,by omega⟩)).d f.o (fun k e=>e.1.2))
       . refine z.o.a (fun k hk e=>⟨⟨R e,?_⟩,e⟩);have:=T.q;omega
theorem Tw (w:X)(S:Nat->Prop)(g:Nat)(s:bR)(t:ag)(h:dT w S g s)(hp:s.a=1)(hG:iD s.c)(ht:t.size<=200):
 Calls prog 133 #[Q (M ⟨g,0,U⟩),V t] w fun e w'=>Bw w S g s t.data.toList e w':=by
 obtain⟨hg,lp,hpp,bd,code,u,hI⟩:=h;cases hI with
 | dead c l h4=>omega
 | Le x h0 L=>omega
 | at2 x gb h2 L hb B=>omega
 | at3 x gb D h3 L B=>omega
 | O0 x v D h1 L H =>
   have c1:=u.f;have y:¬((fun k=>(S k∧k≠g)∧D k) g):=fun e=>e.1.2 rfl;have G:=u;have z:=aa L;have m:=aa hg;have TS:=aa H
   by_cases N:t.data.toList=[]
   . obtain rfl:=Er N;have T:∀c,gC s.c=.inl c->iC s []=(ld s,[.fail c]):=fun c e=>by
      unfold iC;rw[if_neg (by omega),if_pos rfl,e]
     go_enter func133,ntmps133;go_wp2_with fail;refine(TG w g v _ _ _ s.c u H y hG).mono ?_;rintro e W (⟨c,l,rfl,hf,d,f⟩ | ⟨k,rfl,hf,d,n,f⟩)
     . have p:=aa hf;have i:=aa d;have a:=aa f;have QG:=aa l
       go_wp2;go_ret;exact .bad c QG.o rfl (T c p.o) _ _ _ i.o (a.o.e (fun k e=>by
        rcases e with e | e
        . exact e.1.1
        . rw[e];exact m.o))
     . have p:=aa hf;have i:=aa d;have a:=aa f;have q:=aa n
       go_wp2;go_ret;refine .whole k x v D rfl p.o rfl hp i.o ?_ q.o (a.o.e (fun k e=>by
        rcases e with e | e
        . exact e.1.1
        . rw[e];exact m.o))
       exact z.o.d a.o (fun k e b=>by
        rcases b with b | b
        . exact e.2 b.2
        . exact e.1.2 b)
   . have hts:=ER N;have hemp:=sg t hts;have r:iC s t.data.toList=if s.c.a.length=16 then (ld s,[.fail 8]) else if (aP t.data.toList).a≠0 then (ld s,[.fail (aP t.data.toList).a]) else ({ s with c:={ s.c with a:=s.c.a++[((aP t.data.toList).b,(aP t.data.toList).c)] } },[]):=by
      unfold iC;rw[if_neg (by omega),if_neg N]
     by_cases j:s.c.a.length=16
     . have C:=aa (OQ w g v _ _ _ s.c t u H j);rw[if_pos j] at r;generalize t.data.toList=tl at *;go_enter func133,ntmps133;go_wp2_with fail;refine C.o.mono ?_;rintro e W ⟨rfl,hw⟩;subst hw;go_wp2;go_ret;exact .bad 8 (by omega) rfl r _ _ _ G (al.r _ _)
     . rw[if_neg j] at r;by_cases l:(aP t.data.toList).a=0
       . have C:=aa (Tt w g v _ _ _ s.c t u H y (by have:=hG.a;omega) (by omega) l);rw[if_neg (fun e=>e l)] at r;generalize aP t.data.toList=fd at *;generalize t.data.toList=tl at *;go_enter func133,ntmps133;go_wp2_with fail;refine C.o.mono ?_;rintro e W ⟨rfl,d,n,f⟩;have i:=d;have q:=aa n;have a:=aa f
         go_wp2;go_ret;refine .quiet _ rfl r ⟨A m.o,_,_,_,_,i,?_⟩ (a.o.e (fun k e=>e.1.1));refine .O0 x v (fun k=>D k∨w.heap.size<=k) hp ?_ ?_
         . refine((z.o.a (S':=fun k=>((aB S w k∧k≠g)∧¬(D k∨w.heap.size<=k))) (fun k hk e=>⟨⟨A e.1.1,e.1.2⟩,fun b=>by
            rcases b with b | b
            . exact e.2 b
            . omega⟩)).d a.o (fun k e b=>e.2 (A b.2)))
         . refine q.o.a (fun k hk e=>?_);rcases e with e | e
           . exact⟨⟨A e.1.1,e.1.2⟩,A e.2⟩
           . exact⟨⟨R e,by have:=G.q;omega⟩,R e⟩
       . have C:=aa (R4 w g v _ _ _ s.c t u H j (by omega) l);rw[if_pos l] at r;have T:=r;have QG:=aa l
         generalize (aP t.data.toList).a=cc at *;generalize t.data.toList=tl at *;go_enter func133,ntmps133;go_wp2_with fail;refine C.o.mono ?_;rintro e W ⟨rfl,hB⟩;go_wp2;go_ret;exact .bad cc QG.o rfl T _ _ _ (G.a hB) (al.d hB)
structure TH (w:X)(S:Nat->Prop)(g gl:Nat)(s:bR)(c:UInt8):Prop where
 a:w.cell? ⟨g,0,U⟩=M (Q (M ⟨gl,0,U⟩))
 b:Calls prog 132 #[Q (M ⟨gl,0,U⟩),I .u8 c.toNat] w fun e w'=>e=Y (kX s.b c)∧dT w' (aB (fun k=>S k∧k<w.heap.size) w) g { s with b:=bu s.b c }∧al (fun k=>(S k∧k<w.heap.size)∧k≠g) w w'
theorem Aq (w:X)(S:Nat->Prop)(g:Nat)(s:bR)(c:UInt8)(h:dT w S g s)(m:fX s)(y:s.a=0∨s.a=1):∃a,TH w S g a s c:=by
 obtain⟨n,z,p,bd,code,f,q⟩:=h;have o:=f.q;cases q with
 | dead c C G=>omega
 | at2 a r N L T B=>omega
 | at3 a r D W L B=>omega
 | Le a t L =>
   refine⟨a,f.B,(yR w (fun k=>(S k∧k<w.heap.size)∧k≠g) a s.b c (L.a (fun k b e=>⟨⟨e.1,b⟩,e.2⟩)) m.a.c).mono ?_⟩;rintro e u ⟨j,l,d⟩;refine⟨j,⟨A ⟨n,o⟩,_,_,_,_,f.d d (fun e=>e.2 rfl),.Le a t (l.a (fun k _ e=>?_))⟩,d⟩;rcases e with e | e
   . exact⟨A e.1,e.2⟩
   . exact⟨R e,by omega⟩
 | O0 a v D x L H =>
   refine⟨a,f.B,(yR w (fun k=>((S k∧k<w.heap.size)∧k≠g)∧¬D k) a s.b c (L.a (fun k b e=>⟨⟨⟨e.1.1,b⟩,e.1.2⟩,e.2⟩)) m.a.c).mono ?_⟩;rintro e u ⟨j,l,d⟩;refine⟨j,⟨A ⟨n,o⟩,_,_,_,_,f.d d (fun e=>e.1.2 rfl),.O0 a v (fun k=>D k∧k<w.heap.size) x (l.a (fun k _ e=>?_)) (((H.a (S':=fun k=>(aB (fun k=>S k∧k<w.heap.size) w k∧k≠g)∧D k∧k<w.heap.size) (fun k b e=>⟨⟨A ⟨e.1.1,b⟩,e.1.2⟩,e.2,b⟩)).e d (fun k e i=>i.2 e.2.1)))⟩,d.e (fun k e=>e.1)⟩;rcases e with e | e
   . exact⟨⟨A e.1.1,e.1.2⟩,fun i=>e.2 i.1⟩
   . exact⟨⟨R e,by omega⟩,fun i=>by have:=i.2;omega⟩
theorem LM (w:X)(S So:Nat->Prop)(g:Nat)(s:bR)(c:UInt8)(ao:ai)(cap n:Nat)(es:List aS)(h:dT w S g s)(hG:fX s)(hp:s.a=0∨s.a=1)(u:(bu s.b c).a≠0)(hO:iM w So ao cap es)(hd:∀k,S k->¬So k)(q:es.length=n)(v:n<=90000)(r:eZ es)(t:eL es)(x:bT es<=90000):
 Calls prog 81 #[Q (M ⟨g,0,U⟩),Z ao n cap,I .u8 c.toNat] w fun e w'=>oJ w S So g s c es e w':=by
 obtain⟨gl,f⟩:=Aq w S g s c h hG hp;have c0:=f.a;have y:=aa f.b;have z:=Fk u;have B:Hid (cK s c=(ld s,[.fail (bu s.b c).a])):=by
  unfold Hid cK;rw[if_neg (by omega),if_neg (by omega),if_neg (by omega),if_pos u]
 unfold kX at y;rw[z] at y;have L:Hid (S g∧g<w.heap.size∧∀k,S k->¬So k):=⟨h.1,h.e,hd⟩;have XU:=hO.d (S':=fun k=>So k∧k<w.heap.size) (fun k hk e=>⟨e,hk⟩);have HE:=And.intro q (And.intro v (And.intro r (And.intro t x)));have tc:(((bu s.b c).a:Int) != 0)=true:=by rw[cW];omega
 generalize (⟨(cY s.b c).toArray⟩:ag)=tx at *;generalize (bu s.b c)=C at *;generalize C.a=N at *;go_enter func81,ntmps81;go_wp2_with fail;refine y.o.mono ?_;rintro e w1 ⟨rfl,vN,D⟩;have G:=vN;have a:=aa D
 go_wp2_with fail;obtain⟨q,v,r,t,x⟩:=HE;obtain⟨b,T,hd⟩:=L.o;obtain⟨_,lp1,hp1,bd1,ad2,i,_⟩:=G;refine(Ap w1 g _ _ _ _ _ (fun k=>So k∧k<w.heap.size) ao cap n N es i (XU.a a.o (fun k e d=>hd k d.1.1 e.1)) (fun e=>hd g b e.1) q (by omega) r t (by omega)).mono ?_;rintro e w2 ⟨jB,j,n2,rfl,l,m,p,W⟩;have Zh:=aa l;have FD:=aa m;have tQ:=aa p;have H:=aa W
 clear q v r t x hd b T l m p W i;go_wp2;go_ret;obtain⟨b,T,hd⟩:=L.o;have hs1:=a.o.b;refine .mk jB j n2 (fun k=>k=g) _ rfl (by rw[B.o];exact Zh.o) ?_ (by rw[B.o];exact FD.o) ?_ (fun k e=>by rw[e];exact A b) ?_ ?_
 . rw[B.o];exact⟨rfl,_,_,_,_,tQ.o,.dead N u rfl⟩
 . intro k e d;subst e;rcases d with d | d
   . exact hd k b d.1
   . omega
 . intro k e;rcases e with e | e
   . exact R (A e.1)
   . exact R (R (by omega))
 . refine(a.o.e (fun k e=>A e.1.1)).a (H.o.e (fun k e=>?_)) (fun _ e _=>e);rcases e with e | e
   . exact R e.1
   . rw[e];exact A b
theorem LN (w:X)(S So:Nat->Prop)(g:Nat)(s:bR)(c:UInt8)(ao:ai)(cap n:Nat)(es:List aS)(h:dT w S g s)(x:fX s)(y:s.a=0∨s.a=1)(r:(bu s.b c).a=0)(t:fW s.b c=F)(z:iM w So ao cap es)(hd:∀k,S k->¬So k)(f:es.length=n)(i:eZ es):
 Calls prog 81 #[Q (M ⟨g,0,U⟩),Z ao n cap,I .u8 c.toNat] w fun e w'=>oJ w S So g s c es e w':=by
 obtain⟨gl,b⟩:=Aq w S g s c h x y;have c0:=b.a;have j:=aa b.b;have u:Hid (cK s c=({ s with b:=bu s.b c },[])):=by
  unfold Hid cK;rw[if_neg (by omega),if_neg (by omega),if_neg (by omega),if_neg (fun e=>e r),if_neg (by rw[t];simp)]
 unfold kX at j;rw[t,r] at j;have B:S g∧g<w.heap.size∧∀k,S k->¬So k:=⟨h.1,h.e,hd⟩;have C:=z.d (S':=fun k=>So k∧k<w.heap.size) (fun k D e=>⟨e,D⟩);have G:=And.intro f i;generalize (⟨(cY s.b c).toArray⟩:ag)=tx at *;go_enter func81,ntmps81;go_wp2_with fail;refine j.o.mono ?_;rintro e H ⟨rfl,v,l⟩;have m:=v;have a:=aa l
 have c2:H.cell? ⟨g,2,U⟩=M (.bool F):=by obtain⟨_,L,N,T,W,p,_⟩:=v;exact p.r
 go_wp2;go_ret;obtain⟨f,i⟩:=G;obtain⟨hg,Bl,hd⟩:=B;have hs1:=a.o.b;have d:aH (es++(cK s c).2)=es:=by rw[u.o,eN];exact ol es i
 refine .mk ao cap n _ (fun k=>So k∧k<w.heap.size) rfl (by rw[d];exact f.symm) (by rw[u.o];exact m) (by rw[d];exact C.a a.o (fun k e q=>hd k q.1.1 e.1)) ?_ ?_ (fun k e=>R (A e.1)) (a.o.e (fun k e=>A e.1.1))
 . intro k e q;rcases e with e | e
   . exact hd k e.1 q.1
   . omega
 . intro k e;rcases e with e | e
   . exact A e.1
   . exact R e
structure Tx (w:X)(S So:Nat->Prop)(g:Nat)(ao:ai)(cap n:Nat)(es:List aS):Prop where
 b:S g
 c:g<w.heap.size
 a:∀k,S k->¬So k
 e:iM w (fun k=>So k∧k<w.heap.size) ao cap es
 d:es.length=n
 i:n<=90000
 h:eZ es
 f:eL es
 j:bT es<=90000
theorem R6 {a b:X}{T:Nat->Prop}{c d e f:Value}{k:Int}(g:al T (a.alloc (K #[c,d,e,f,I J k] 82)) b)(i:¬T a.heap.size):b.cell? ⟨a.heap.size,4,U⟩=M (I J k):=by
 have j:=g.j (bw a (K #[c,d,e,f,I J k] 82)) i;exact am b a.heap.size 4 _ _ _ j
theorem Mq (w:X)(S So:Nat->Prop)(g:Nat)(s:bR)(c:UInt8)(ao:ai)(cap n:Nat)(es:List aS)(h:dT w S g s)(hG:fX s)(hp:s.a=0∨s.a=1)(he:fW s.b c=true)(hO:iM w So ao cap es)(hd:∀k,S k->¬So k)(hn:es.length=n)(hl:n<=90000)(hj:eZ es)(hf:eL es)(hz:bT es<=90000):
 Calls prog 81 #[Q (M ⟨g,0,U⟩),Z ao n cap,I .u8 c.toNat] w fun e w'=>oJ w S So g s c es e w':=by
 obtain⟨gl,hLF⟩:=Aq w S g s c h hG hp;have c0:=hLF.a;have HF:=hLF.b;obtain⟨e1,b⟩:=Fl he;have hc:(bu s.b c).a=0:=by rw[e1];rfl
 have l:cK s c=iC { s with b:=dv } (cY s.b c):=by
  unfold cK;rw[if_neg (by omega),if_neg (by omega),if_neg (by omega),if_neg (fun e=>e hc),if_pos he]
 unfold kX at HF;rw[he,hc,e1] at HF;have hsh:=ye (c:=c) hG.a;have v:Tx w S So g ao cap n es:=⟨h.1,h.e,hd,hO.d (fun k j e=>⟨e,j⟩),hn,hl,hj,hf,hz⟩;have hHG:s.a=1->iD s.c:=fun e=>(hG.f e).1;have qw:∀L,dT L (aB (fun k=>S k∧k<w.heap.size) w) g { s with b:=dv }->Calls prog 133 #[Q (M ⟨g,0,U⟩),V ⟨(cY s.b c).toArray⟩] L fun e w'=>Bw L (aB (fun k=>S k∧k<w.heap.size) w) g { s with b:=dv } (cY s.b c) e w':=fun L hR=>by
  have hsz:(⟨(cY s.b c).toArray⟩:ag).size<=200:=by show(cY s.b c).toArray.size<=200;rw[cN];exact hsh.1
  rcases hp with hp | hp
  . exact Tv L _ g _ ⟨(cY s.b c).toArray⟩ hR hp hsz hsh.2
  . exact Tw L _ g _ ⟨(cY s.b c).toArray⟩ hR hp (hHG hp) hsz
 generalize (⟨(cY s.b c).toArray⟩:ag)=tx at *;generalize cY s.b c=tt at *;go_enter func81,ntmps81;go_wp2_with fail;refine HF.mono ?_;rintro e L ⟨rfl,vN,hT1⟩;have HR1:=vN;have i:=aa hT1
 go_wp2_with fail;refine(qw L HR1).mono ?_;rintro e C (⟨s',rfl,N,hR2,kD⟩ | ⟨cc,hcc,rfl,N,lp2,hp2,bd2,r,kD⟩ | ⟨k,gl2,gh,D,rfl,j,htt,hph,r,hL2,hH2,kD⟩)
 . have HL:=N;have HR2:=aa hR2;have f:=aa kD
   have c2:C.cell? ⟨g,2,U⟩=M (.bool F):=by obtain⟨_,lp1,hp1,bd1,ad2,hP1,_⟩:=hR2;exact hP1.r
   go_wp2;go_ret;have d:=v;have x:=i.o.b;have T:=f.o.b;have y:(cK s c).1=s'∧(cK s c).2=[]:=by rw[l,HL];exact⟨rfl,rfl⟩
   have hej:aH (es++(cK s c).2)=es:=by rw[y.2,eN];exact ol es d.h
   have W:=(d.e.a i.o (fun k e b=>d.a k b.1.1 e.1)).a f.o (fun k e b=>by
    rcases b with b | b
    . exact d.a k b.1 e.1
    . have:=e.2;omega)
   refine .mk ao cap n _ (fun k=>So k∧k<w.heap.size) rfl (by rw[hej];exact d.d.symm) (by rw[y.1];exact HR2.o) (by rw[hej];exact W) ?_ ?_ (fun k e=>R (A e.1)) ?_
   . intro k e b;rcases e with (e | e) | e
     . exact d.a k e.1 b.1
     . omega
     . omega
   . intro k e;rcases e with (e | e) | e
     . exact A e.1
     . exact R e
     . exact R (by omega)
   . refine(i.o.e (fun k e=>A e.1.1)).a (f.o.e (S':=fun k=>(S k∨So k)∨w.heap.size<=k) (fun k e=>?_)) (fun k e j=>?_)
     . rcases e with e | e
       . exact A (A e.1)
       . exact R e
     . rcases e with e | e
       . exact e
       . omega
 . have HL:=N;have tQ:=aa r;have f:=aa kD;have QG:=aa hcc
   have tc:((cc:Int) != 0)=true:=by rw[cW];omega
   clear N r kD hcc;go_wp2_with fail;have d:=v;have x:=i.o.b;have W:=(d.e.a i.o (fun k e b=>d.a k b.1.1 e.1)).a f.o (fun k e b=>by
    rcases b with b | b
    . exact d.a k b.1 e.1
    . have:=e.2;omega)
   refine(Ap C g _ _ _ _ _ (fun k=>So k∧k<w.heap.size) ao cap n cc es tQ.o W (fun e=>d.a g d.b e.1) d.d (by have:=d.i;omega) d.h d.f (by have:=d.j;omega)).mono ?_;rintro e p ⟨lu,iq,n3,rfl,hn3,hO3,G,pW⟩;have HN3:=aa hn3;have sG:=aa hO3;have nK:=aa G;have z:=aa pW
   clear d W hn3 hO3 G pW x;go_wp2;go_ret;have d:=v;have x:=i.o.b;have T:=f.o.b;have y:(cK s c).1.a=4∧(cK s c).2=[.fail cc]:=by rw[l,HL];exact⟨rfl,rfl⟩
   refine .mk lu iq n3 (fun k=>k=g) _ rfl (by rw[y.2];exact HN3.o) ⟨rfl,_,_,_,_,nK.o,.dead cc QG.o y.1⟩ (by rw[y.2];exact sG.o) ?_ (fun k e=>by rw[e];exact A d.b) ?_ ?_
   . intro k e b;subst e;have:=d.c;rcases b with b | b
     . exact d.a k d.b b.1
     . omega
   . intro k e;rcases e with e | e
     . exact R (A e.1)
     . exact R (R (by omega))
   . refine(i.o.e (fun k e=>A e.1.1)).a ((f.o.e (S':=fun k=>(S k∨So k)∨w.heap.size<=k) (fun k e=>?_)).a (z.o.e (fun k e=>?_)) (fun _ e _=>e)) (fun k e j=>?_)
     . rcases e with e | e
       . exact A (A e.1)
       . exact R e
     . rcases e with e | e
       . exact A (R e.1)
       . rw[e];exact A (A d.b)
     . rcases e with e | e
       . exact e
       . omega
 . have tQ:=r;have HL2:=aa hL2;have f:=aa kD;have HK:=aa j;have HTt:=aa htt;have HPh:=aa hph
   have c2:=r.r;have Lm:=Tr C g gh _ _ _ _ r hH2 (fun e=>e.1.2 rfl);have hkr:=yf j;clear r hL2 kD j htt hph hH2;go_wp2_with fail;refine Lm.mono ?_;rintro e p ⟨fo,gG,rfl,G,hV3,pW⟩;have nK:=G;have HV3:=aa hV3;have z:=aa pW
   clear G hV3 pW;go_wp2_with fail;have d:=v;have x:=i.o.b;have T:=f.o.b;have hs3:=z.o.b;have hlt:=d.c;have B:Below p.heap.size p (p.alloc (K #[V ⟨s.c.c.toArray⟩,V ⟨s.c.b.toArray⟩,I J (s.c.e:Int),Z fo s.c.a.length gG,I J k] 82)):=(aq _ _).alloc (ak _) _;have hzA:(p.alloc (K #[V ⟨s.c.c.toArray⟩,V ⟨s.c.b.toArray⟩,I J (s.c.e:Int),Z fo s.c.a.length gG,I J k] 82)).heap.size=p.heap.size+1:=by simp
   have hE3:=((((d.e.a i.o (fun k e b=>d.a k b.1.1 e.1)).a f.o (fun k e b=>by
    rcases b with b | b
    . exact d.a k b.1 e.1
    . have:=e.2;omega)).a z.o (fun k e b=>d.a g d.b (b▸e.1))).f B)
   have hF3:=(HV3.o.e (S':=fun k=>((aB (fun k=>S k∧k<w.heap.size) w k∧k≠g)∧D k)∧k<p.heap.size) (fun k j e=>⟨e,j⟩)).d (al.d (S:=fun _=>False) B) (fun _ _ e=>e);refine(Tp _ (fun k=>So k∧k<w.heap.size) (fun k=>((aB (fun k=>S k∧k<w.heap.size) w k∧k≠g)∧D k)∧k<p.heap.size) ao fo cap n gG s.c.a.length { s.c with d:=k } es hE3 hF3 rfl (fun k e b=>?_) d.d (by have:=d.i;omega) d.h d.f (by have:=d.j;omega)).mono ?_
   . rcases b.1.1.1 with q | q
     . exact d.a k q.1 e.1
     . have:=e.2;omega
   rintro e u ⟨tK,H,n4,rfl,O8,hO4,yA⟩;have hs4:=yA.b;have c4:=R6 yA (fun e=>by have:=e.2;omega);have hadd:=IA d.d O8 (fun a e=>by cases e) d.f;have hP4:=(nK.a B).d yA (fun e=>d.a g d.b e.1);have hL4:=(((HL2.o.a (S':=fun k=>((aB (fun k=>S k∧k<w.heap.size) w k∧k≠g)∧¬D k)∧k<C.heap.size) (fun k j e=>⟨e,j⟩)).d z.o (fun k e=>e.1.1.2)).d (al.d (S:=fun _=>False) B) (fun _ _ e=>e)).d yA (fun k e b=>by
    rcases e.1.1.1 with q | q
    . exact d.a k q.1 b.1
    . have:=b.2;omega)
   have ahY:=hO4.d (S':=fun k=>((So k∧k<w.heap.size)∨(((aB (fun k=>S k∧k<w.heap.size) w k∧k≠g)∧D k)∧k<p.heap.size)∨p.heap.size+1<=k)∧k<u.heap.size) (fun k j e=>⟨by rw[hzA] at e;exact e,j⟩);have ahZ:al (fun k=>(S k∨So k)∨w.heap.size<=k) w u:=by
    refine(i.o.e (fun k e=>A (A e.1.1))).a ((f.o.e (fun k e=>?_)).a ((z.o.e (fun k e=>by rw[e];exact A (A d.b))).a ((al.d B).a (yA.e (fun k e=>A (R e.1))) (fun _ e _=>e)) (fun _ e _=>e)) (fun _ e _=>e)) (fun _ e _=>e);rcases e with e | e
    . exact A (A e.1)
    . exact R e
   have hNx:cK s c=if k=0 then ({ s with b:=dv,a:=0 },[.head { s.c with d:=k },.fin]) else if 0<k then ({ s with b:=dv,a:=2,e:=k.toNat },[.head { s.c with d:=k }]) else ({ s with b:=dv,a:=3,d:=sv },[.head { s.c with d:=k }]):=by
    have hk':gC s.c=.inr k:=HK.o;have hp1:s.a=1:=HPh.o;rw[l,HTt.o];unfold iC;rw[if_neg (by show ¬s.a=0;omega),if_pos rfl];simp only[hk']
   have aeS:p.heap.size+1<=u.heap.size:=by rw[<-hzA];exact hs4
   have HP4:=hP4;have HL4:=aa hL4;have Tg:=aa ahY;have afq:=aa ahZ;have HAd:=aa hadd;have HN4:=aa O8;have XL:=aa hNx
   have Lh:w.heap.size<=L.heap.size∧L.heap.size<=C.heap.size∧C.heap.size<=p.heap.size∧p.heap.size+1<=u.heap.size:=⟨x,T,hs3,aeS⟩;have p3:=hP4.j;have pf3:=hP4.e 3;clear d x T hs3 hs4 hlt B hzA hE3 hF3 O8 hO4 yA hadd hP4 hL4 ahY ahZ hNx aeS c0 c2;have zN:∀k,((((aB (fun k=>S k∧k<w.heap.size) w k∧k≠g)∧¬D k)∧k<C.heap.size)∨k=g)->¬(((So k∧k<w.heap.size)∨(((aB (fun k=>S k∧k<w.heap.size) w k∧k≠g)∧D k)∧k<p.heap.size)∨p.heap.size+1<=k)∧k<u.heap.size):=fun k e b=>by
    have d:=v;have hlt:=d.c;obtain⟨s1,s2,s3,s4⟩:=Lh;rcases e with e | e
    . rcases b.1 with b | b | b
      . rcases e.1.1.1 with q | q
        . exact d.a k q.1 b.1
        . have:=b.2;omega
      . exact e.1.2 b.1.2
      . have:=e.2;omega
    . subst e;rcases b.1 with b | b | b
      . exact d.a k d.b b.1
      . exact b.1.1.2 rfl
      . omega
   have afr:∀k,((((aB (fun k=>S k∧k<w.heap.size) w k∧k≠g)∧¬D k)∧k<C.heap.size)∨k=g)->S k∨w.heap.size<=k:=fun k e=>by
    rcases e with e | e
    . rcases e.1.1.1 with q | q
      . exact A q.1
      . exact R q
    . rw[e];exact A v.b
   have ac5:∀k,(((So k∧k<w.heap.size)∨(((aB (fun k=>S k∧k<w.heap.size) w k∧k≠g)∧D k)∧k<p.heap.size)∨p.heap.size+1<=k)∧k<u.heap.size)->S k∨So k∨w.heap.size<=k:=fun k e=>by
    obtain⟨s1,s2,s3,s4⟩:=Lh;rcases e.1 with e | e | e
    . exact R (A e.1)
    . rcases e.1.1.1 with q | q
      . exact A q.1
      . exact R (R q)
    . exact R (R (by omega))
   by_cases hk0:k=0
   . subst hk0;go_wp2_with fail;obtain⟨a1,a2,a3,a4⟩:=HAd.o;refine(AY u _ tK H n4 _ Tg.o HN4.o.symm (by have:=v.i;omega) a4 a3 (by have:=v.j;omega)).mono ?_;rintro e w5 ⟨AZ,cap5,n5,rfl,hn5,yT,xI⟩;have HN5:=aa hn5;have AL:=aa yT;have HT5:=aa xI
     clear hn5 yT xI a1 a2 a3 a4;go_wp2;go_ret;have l:=XL.o;first | rw[if_pos rfl] at l | rw[if_pos trivial] at l | skip
     obtain⟨s1,s2,s3,s4⟩:=Lh;have hj2:aH (aH (es++[.head { s.c with d:=0 }])++[.fin])=aH (es++(cK s c).2):=by rw[l];exact GH es [_] [.fin]
     refine .mk AZ cap5 n5 (fun k=>(((aB (fun k=>S k∧k<w.heap.size) w k∧k≠g)∧¬D k)∧k<C.heap.size)∨k=g) _ rfl (by rw[<-hj2];exact HN5.o) ?_ (by rw[<-hj2];exact AL.o) ?_ afr ?_ ?_
     . rw[l];refine⟨R rfl,_,_,_,_,HP4.d HT5.o (fun e=>zN g (R rfl) e),.Le gl2 rfl ((HL4.o.d HT5.o (fun k e b=>zN k (A e) b)).a (fun k _ e=>⟨A e,e.1.1.2⟩))⟩
     . intro k e b;rcases b with b | b | b
       . exact zN k e b
       . exact b
       . rcases e with e | e
         . have:=e.2;omega
         . have:=v.c;omega
     . intro k e;rcases e with e | e | e
       . exact ac5 k e
       . exact e.elim
       . exact R (R (by omega))
     . have h:=afq.o.a (HT5.o.e (S':=fun k=>(S k∨So k)∨w.heap.size<=k) (fun k e=>by
        rcases ac5 k e with e | e | e
        . exact A (A e)
        . exact A (R e)
        . exact R e)) (fun _ e _=>e)
       exact⟨h.g,h.i,h.h,h.b,fun k j hn=>h.c k j (fun e=>by
        rcases e with e | e
        . exact hn e
        . omega)⟩
   . have tk:(k==0)=F:=aO.2 hk0;by_cases hk1:0<k
     . obtain⟨m,rfl⟩:∃m:Nat,k=(m:Int):=⟨k.toNat,by omega⟩;have HBo:=Mo u m (by omega);go_wp2_with fail;refine HBo.mono ?_;rintro e w5 ⟨rfl,wG,t⟩;have TM:=HP4.a t;have q3:=TM.j;have qf3:=TM.e 3;have HP5:=TM;have oP:=aa wG;have RN:=aa t
       clear TM wG t;go_wp2;go_ret;have l:=XL.o;rw[if_neg hk0,if_pos hk1] at l;obtain⟨s1,s2,s3,s4⟩:=Lh;have hlt:=v.c;have zL:=al.f (fun k=>k=g) w5 ⟨g,3,U⟩ (.iface 241 (Q (M ⟨u.heap.size,0,U⟩))) rfl;refine .mk tK H n4 (fun k=>((((aB (fun k=>S k∧k<w.heap.size) w k∧k≠g)∧¬D k)∧k<C.heap.size)∨k=g)∨k=u.heap.size) _ rfl (by rw[l];exact HN4.o) ?_ (by rw[l];exact(Tg.o.f RN.o).a zL (fun k e b=>zN k (R b) e)) ?_ ?_ ac5 ?_
       . rw[l];refine⟨A (R rfl),_,_,_,_,HP5.y _,.at2 gl2 u.heap.size rfl (((HL4.o.d (al.d (S:=fun _=>False) RN.o) (fun _ _ e=>e)).d zL (fun k e=>e.1.1.2)).a (fun k _ e=>⟨⟨A (A e),e.1.1.2⟩,by have:=e.2;omega⟩)) ⟨R rfl,by omega⟩ ?_⟩;have:=zL.j oP.o (by omega);rw[this];simp
       . intro k e b;rcases e with e | e
         . exact zN k e b
         . have:=b.2;omega
       . intro k e;rcases e with e | e
         . exact afr k e
         . exact R (by omega)
       . have h:=afq.o.a ((al.d (S:=fun k=>(S k∨So k)∨w.heap.size<=k) RN.o).a (zL.e (S':=fun k=>(S k∨So k)∨w.heap.size<=k) (fun k e=>by rw[e];exact A (A v.b))) (fun _ e _=>e)) (fun _ e _=>e);exact⟨h.g,h.i,h.h,h.b,fun k j hn=>h.c k j (fun e=>by
          rcases e with e | e
          . exact hn e
          . omega)⟩
     . obtain rfl:k=-1:=by omega
       have HBo:=LH u;go_wp2_with fail;refine HBo.mono ?_;rintro e w5 ⟨gb,rfl,wG,t⟩;have TM:=HP4.a t;have q3:=TM.j;have qf3:=TM.e 3;have HP5:=TM;have oP:=aa wG;have RN:=aa t
       clear TM wG t;go_wp2;go_ret;have l:=XL.o;rw[if_neg (by omega),if_neg (by omega)] at l;obtain⟨s1,s2,s3,s4⟩:=Lh;have hlt:=v.c;have zL:=al.f (fun k=>k=g) w5 ⟨g,3,U⟩ (.iface 239 (Q (M ⟨gb,0,U⟩))) rfl;refine .mk tK H n4 (fun k=>((((aB (fun k=>S k∧k<w.heap.size) w k∧k≠g)∧¬D k)∧k<C.heap.size)∨k=g)∨u.heap.size<=k) _ rfl (by rw[l];exact HN4.o) ?_ (by rw[l];exact(Tg.o.f RN.o).a zL (fun k e b=>zN k (R b) e)) ?_ ?_ ac5 ?_
       . rw[l];refine⟨A (R rfl),_,_,_,_,HP5.y _,.at3 gl2 gb (fun k=>u.heap.size<=k) rfl (((HL4.o.d (al.d (S:=fun _=>False) RN.o) (fun _ _ e=>e)).d zL (fun k e=>e.1.1.2)).a (fun k _ e=>⟨⟨A (A e),e.1.1.2⟩,by have:=e.2;omega⟩)) ((oP.o.e zL (fun k e b=>by omega)).a (fun k _ e=>⟨⟨R e,by omega⟩,e⟩))⟩
       . intro k e b;rcases e with e | e
         . exact zN k e b
         . have:=b.2;omega
       . intro k e;rcases e with e | e
         . exact afr k e
         . exact R (by omega)
       . have h:=afq.o.a ((al.d (S:=fun k=>(S k∨So k)∨w.heap.size<=k) RN.o).a (zL.e (S':=fun k=>(S k∨So k)∨w.heap.size<=k) (fun k e=>by rw[e];exact A (A v.b))) (fun _ e _=>e)) (fun _ e _=>e);exact⟨h.g,h.i,h.h,h.b,fun k j hn=>h.c k j (fun e=>by
          rcases e with e | e
          . exact hn e
          . omega)⟩
theorem Mr (w:X)(S So:Nat->Prop)(g:Nat)(s:bR)(c:UInt8)(ao:ai)(cap n:Nat)(es:List aS)(h:dT w S g s)(a:fX s)(b:s.a=0∨s.a=1)(d:iM w So ao cap es)(hd:∀k,S k->¬So k)(f:es.length=n)(j:n<=90000)(i:eZ es)(l:eL es)(m:bT es<=90000):
 Calls prog 81 #[Q (M ⟨g,0,U⟩),Z ao n cap,I .u8 c.toNat] w fun e w'=>oJ w S So g s c es e w':=by
 by_cases o:(bu s.b c).a=0
 . cases p:fW s.b c
   . exact LN w S So g s c ao cap n es h a b o p d hd f i
   . exact Mq w S So g s c ao cap n es h a b p d hd f j i l m
 . exact LM w S So g s c ao cap n es h a b o d hd f j i l m
theorem Md (w:X)(S So:Nat->Prop)(g:Nat)(s:bR)(c:UInt8)(ao:ai)(cap n:Nat)(es:List aS)(h:dT w S g s)(b:fX s)(a:s.a=2∨s.a=3)(d:iM w So ao cap es)(hd:∀k,S k->¬So k)(f:es.length=n)(i:n<=90000)(j:eZ es)(l:eL es)(m:bT es<=90000):
 Calls prog 82 #[Q (M ⟨g,0,U⟩),Z ao n cap,I .u8 c.toNat] w fun e w'=>oJ w S So g s c es e w':=by
 rcases a with a | a
 . exact KR w S So g s c ao cap n es h b a d hd f i j l m
 . by_cases o:s.d.b=1
   . exact LI w S So g s c ao cap n es h b a o d hd f i j l m
   . exact LJ w S So g s c ao cap n es h b a o d hd f i j l m
structure xA (w:X)(S:Nat->Prop)(g:Nat)(s:bR)(l:ae)(k:Nat)(ao:ai)(cap n:Nat)(wr:X):Prop where
 b:n=(aH (dc s (l.take k))).length
 c:∃S' So',dT wr S' g (cP s (l.take k))∧iM wr So' ao cap (aH (dc s (l.take k)))∧(∀i,S' i->¬So' i)∧(∀i,S' i->S i∨w.heap.size<=i)∧(∀i,So' i->S i∨w.heap.size<=i)
 a:al S w wr
inductive Bx (w:X)(S:Nat->Prop)(g:Nat)(s:bR)(l:ae)(e:Ending)(w':X):Prop
 | mk (ao:ai) (cap n:Nat) (S' So':Nat->Prop) (he:e=Y (Z ao n cap)) (hn:n=(aH (dc s l)).length) (hR:dT w' S' g (cP s l)) (hO:iM w' So' ao cap (aH (dc s l))) (hd:∀i,S' i->¬So' i) (hS:∀i,S' i->S i∨w.heap.size<=i) (hSo:∀i,So' i->S i∨w.heap.size<=i) (hT:al S w w')
theorem xA.d {w:X}{S:Nat->Prop}{g:Nat}{s:bR}{l:ae}{k:Nat}{ao:ai}{cap n:Nat}{wr:X}(h:xA w S g s l k ao cap n wr)(b:dc s l=dc s (l.take k))(c:cP s l=cP s (l.take k)):Bx w S g s l (Y (Z ao n cap)) wr:=by
 obtain⟨d,a,e,f,i,j,m⟩:=h.c;exact .mk ao cap n d a rfl (by rw[b];exact h.b) (by rw[c];exact e) (by rw[b];exact f) i j m h.a
theorem xA.e {w:X}{S:Nat->Prop}{g:Nat}{s:bR}{l:ae}{k:Nat}{S' b:Nat->Prop}{wr w':X}{o:ai}{a p:Nat}(u:k<l.length)(d:∀i,S' i->S i∨w.heap.size<=i)(c:∀i,b i->S i∨w.heap.size<=i)(q:al S w wr)
 (h:oJ wr S' b g (cP s (l.take k)) l[k] (aH (dc s (l.take k))) (Y (Z o p a)) w'):xA w S g s l (k+1) o a p w':=by
 obtain⟨T,W,n3,v,f,j,x,y,z,B,C,m,D⟩:=h;injection j with j;injection j with G H L;subst G;subst H;subst L;have r:=go u;have t:aH (dc s (l.take (k+1)))=aH (aH (dc s (l.take k))++(cK (cP s (l.take k)) l[k]).2):=by
  rw[r,Pn,sY]
 have n:cP s (l.take (k+1))=(cK (cP s (l.take k)) l[k]).1:=by rw[r,Pm]
 have N:=q.b;refine⟨by rw[t];exact x,⟨v,f,by rw[n];exact y,by rw[t];exact z,B,fun i e=>?_,fun i e=>?_⟩,q.a D (fun i e hi=>?_)⟩
 . rcases C i e with e | e
   . exact d i e
   . exact R (by omega)
 . rcases m i e with e | e | e
   . exact d i e
   . exact c i e
   . exact R (by omega)
 . rcases e with e | e
   . rcases d i e with e | e
     . exact e
     . omega
   . rcases c i e with e | e
     . exact e
     . omega
theorem Nm (w:X)(S:Nat->Prop)(g:Nat)(s:bR)(l:ae)(bo:ai)(gF n:Nat)(h:dT w S g s)(hG:fX s)(hB:ay w bo gF l)(ug:l≠[]->∀a,bo=M a->¬S a.block)(hn:l.length=n)(hl:n<=40000):
 Calls prog 43 #[Q (M ⟨g,0,U⟩),Z bo n gF] w fun e w'=>Bx w S g s l e w':=by
 subst hn;have HB:=hB;have HR:=aa h;have HG:=aa hG;have HBo:=aa ug
 go_enter func43,ntmps43;go_wp2;go_loopw [5,10] (fun vo vi wr=>∃(k:Nat) (W:ai) (i n:Nat),k<=l.length∧vi=I J k∧vo=Z W n i∧xA w S g s l k W i n wr) (fun _ vi _=>l.length-(intOf vi).toNat)
 case atStart =>
  refine⟨0,U,0,0,ax _,rfl,rfl,⟨rfl,⟨S,fun _=>False,HR.o,.bare,fun _ _ e=>e,fun _ e=>A e,fun _ e=>e.elim⟩,al.r _ _⟩⟩
 case round =>
  obtain⟨k,W,i,n,hk,rfl,rfl,N⟩:=hrel;by_cases q:k<l.length
  . obtain⟨bb,oo,rfl,_⟩:=HB.j (by omega);have hne:l≠[]:=by intro e;subst e;simp at q
    have hbc:=(HB.e N.a (fun a e=>HBo.o hne a e)).j (by omega);obtain⟨b2,o2,t,u⟩:=hbc;injection t with t;injection t with hb2 ho2;subst hb2;subst ho2;have ck:=u k q;have hlt':(k:Int)<l.length:=by omega
    have hcap:=HB.1;obtain⟨S',v,d,BM,m,x,Rl⟩:=N.c;have j:fX (cP s (l.take k)):=HG.o.j _;have T:=GN s (l.take k);have htk:(l.take k).length<=40000:=by rw[bP];omega
    have p:=N.b.symm;have HD:=Fs wr S' g (cP s (l.take k)) d;have NM:∀(y:ai) (b z:Nat) (w':X),oJ wr S' v g (cP s (l.take k)) l[k] (aH (dc s (l.take k))) (Y (Z y z b)) w'->xA w S g s l (k+1) y b z w':=fun y b z w' hfs=>xA.e q x Rl N.a hfs;by_cases h4:(cP s (l.take k)).a=4
    . rw[aV h4] at HD;have hdr:=BO (l.drop k) (cP s (l.take k)) h4;have HDn:dc s l=dc s (l.take k)∧cP s l=cP s (l.take k):=by
       constructor
       . conv=>lhs;rw[<-jn k l,GQ,hdr.1,eN]
       . conv=>lhs;rw[<-jn k l,BH,hdr.2]
      generalize l[k]=c at *;go_wp2_with (go_at_call 42;refine HD.mono ?_;rintro e w1 ⟨rfl,hw⟩;subst hw)
      go_ret;exact N.d HDn.1 HDn.2
    . rw[aW h4] at HD;have hph:(cP s (l.take k)).a=0∨(cP s (l.take k)).a=1∨(cP s (l.take k)).a=2∨(cP s (l.take k)).a=3:=by have:=j.d;omega
      by_cases C:(cP s (l.take k)).a=0∨(cP s (l.take k)).a=1
      . have HC:=aa (Mr wr S' v g _ l[k] W i n _ d j C BM m p (by omega) T.2.2.2 T.2.2.1 (by omega));have c3:wr.cell? ⟨g,3,U⟩=M .nilIface:=by
         obtain⟨_,lp,hp,bd,code,hP,hI⟩:=d;cases hI with
         | dead c hc h=>omega
         | Le G h L=>exact hP.j
         | O0 G gh D h L H=>exact hP.j
         | at2 G gb h L hb B=>omega
         | at3 G gb D h L B=>omega
        generalize l[k]=c at *;generalize cP s (l.take k)=sk at *;clear d BM m j T htk p u h4 C hph x Rl;go_wp2_with (first
         | (go_at_call 42;refine HD.mono ?_;rintro e w1 ⟨rfl,hw⟩;subst hw)
         | (go_at_call 81;refine HC.o.mono ?_;rintro e w2 f;obtain⟨y,b,z,S2,So2,he,r⟩:=id f;subst he;have sH:=aa f;clear f r))
        go_roundw
        case rel=>exact⟨k+1,y,b,z,by omega,by go_num,rfl,NM _ _ _ _ sH.o⟩
        case measure=>simp[intOf];omega
      . have ah1:(cP s (l.take k)).a=2∨(cP s (l.take k)).a=3:=by omega
        have HC:=Md wr S' v g _ l[k] W i n _ d j ah1 BM m p (by omega) T.2.2.2 T.2.2.1 (by omega);obtain⟨tt,vv,c3⟩:∃tt vv,wr.cell? ⟨g,3,U⟩=M (.iface tt vv):=by
         obtain⟨_,lp,hp,bd,code,hP,hI⟩:=d;cases hI with
         | dead c hc h=>omega
         | Le G h L=>omega
         | O0 G gh D h L H=>omega
         | at2 G gb h L hb B=>exact⟨_,_,hP.j⟩
         | at3 G gb D h L B=>exact⟨_,_,hP.j⟩
        generalize l[k]=c at *;generalize cP s (l.take k)=sk at *;clear d BM m j T htk p u h4 C ah1 hph x Rl;go_wp2_with (first
         | (go_at_call 42;refine HD.mono ?_;rintro e w1 ⟨rfl,hw⟩;subst hw)
         | (go_at_call 82;refine HC.mono ?_;rintro e w2 f;obtain⟨y,b,z,S2,So2,he,r⟩:=id f;subst he;have sH:=aa f;clear f r))
        go_roundw
        case rel=>exact⟨k+1,y,b,z,by omega,by go_num,rfl,NM _ _ _ _ sH.o⟩
        case measure=>simp[intOf];omega
  . obtain rfl:k=l.length:=by omega
    go_wp2;go_ret;exact N.d (by rw[fD]) (by rw[fD])
def pe (tk tg:Bool)(afw nb nf s c h:Nat):Nat :=
 if tk=F then 6 else if tg=F then 5 else if 200<afw∨4000<nb then 4 else if 15<nf then 8 else if 0<s∨0<c then 12 else if h≠1 then 13 else 0
theorem ES (w:X)(m t first:ag)(mi ln:Int)(l:aC)(fo bo:ai)(gG nf nb gF:Nat)(hl:bx w fo gG nf (aI l))(G:l.length=nf)(H:nf<=1000000)(L:∀p∈l,p.1.size<=2000∧p.2.size<=2000)(hm:m.size<=1000000)(ht:t.size<=1000000):
 Calls prog 206 #[.agg #[V m,V t,I J mi,Z fo nf gG,I J ln],V first,Z bo nb gF] w fun e w'=>e=Y (I J (pe (cT m.data.toList) (jh t.data.toList) first.size nb nf (aE fg l).length (aE fh l).length (aE eQ l).length:Int))∧Below w.heap.size w w':=by
 have d:Below w.heap.size w (w.alloc (K #[V m,V t,I J mi,Z fo nf gG,I J ln] 82)):=(aq _ _).alloc (ak _) _;have N:∀W,Below (w.alloc (K #[V m,V t,I J mi,Z fo nf gG,I J ln] 82)).heap.size (w.alloc (K #[V m,V t,I J mi,Z fo nf gG,I J ln] 82)) W->bx W fo gG nf (aI l):=fun W r=>(hl.a d).a r;have s:=fun W=>yY m W (by unfold maxLen;omega);have v:=fun W=>CR t W ht;have C:=fun W (r:Below (w.alloc (K #[V m,V t,I J mi,Z fo nf gG,I J ln] 82)).heap.size (w.alloc (K #[V m,V t,I J mi,Z fo nf gG,I J ln] 82)) W)=>zm l vx fo gG nf W (N W r) G H L (by decide);have k:=fun W (r:Below (w.alloc (K #[V m,V t,I J mi,Z fo nf gG,I J ln] 82)).heap.size (w.alloc (K #[V m,V t,I J mi,Z fo nf gG,I J ln] 82)) W)=>zm l vy fo gG nf W (N W r) G H L (by decide);have u:=fun W (r:Below (w.alloc (K #[V m,V t,I J mi,Z fo nf gG,I J ln] 82)).heap.size (w.alloc (K #[V m,V t,I J mi,Z fo nf gG,I J ln] 82)) W)=>zm l vu fo gG nf W (N W r) G H L (by decide);simp only[EP,EQ,EO] at C k u;have D:(w.alloc (K #[V m,V t,I J mi,Z fo nf gG,I J ln] 82)).cell? ⟨w.heap.size,3,U⟩=M (Z fo nf gG):=by rw[World.cell?_alloc_mark];rfl
 have i:∀W,Below (w.alloc (K #[V m,V t,I J mi,Z fo nf gG,I J ln] 82)).heap.size (w.alloc (K #[V m,V t,I J mi,Z fo nf gG,I J ln] 82)) W->W.cell? ⟨w.heap.size,3,U⟩=M (Z fo nf gG):=fun W r=>(r.cell (bI _ _ D)).trans D;have Ta:pe (cT m.data.toList) (jh t.data.toList) first.size nb nf (aE fg l).length (aE fh l).length (aE eQ l).length=if cT m.data.toList=F then 6 else if jh t.data.toList=F then 5 else if 200<first.size∨4000<nb then 4 else if 15<nf then 8 else if 0<(aE fg l).length∨0<(aE fh l).length then 12 else if (aE eQ l).length≠1 then 13 else 0:=rfl
 generalize pe (cT m.data.toList) (jh t.data.toList) first.size nb nf (aE fg l).length (aE fh l).length (aE eQ l).length=aah at Ta ⊢;generalize (aE fg l).length=S at *;generalize (aE fh l).length=T at *;generalize (aE eQ l).length=vh at *;generalize cT m.data.toList=tk at *;generalize jh t.data.toList=tg at *;simp only[vx] at C;simp only[vy] at k;simp only[vu] at u;have c:=Ta;cases tk
 . rw[if_pos rfl] at c;go_enter func206,ntmps206;go_wp2_with fail;refine(s _).mono ?_;rintro e x ⟨rfl,g⟩;subst g;go_wp2;go_ret;exact⟨jV (by rw[c];rfl),d⟩
 . rw[if_neg (by simp)] at c;cases tg
   . rw[if_pos rfl] at c;go_enter func206,ntmps206;go_wp2_with fail;refine(s _).mono ?_;rintro e x ⟨rfl,g⟩;subst g;go_wp2_with fail;refine(v _).mono ?_;rintro e f ⟨rfl,a⟩;have y:=i f a;go_wp2;go_ret;exact⟨jV (by rw[c];rfl),d.trans (a.mono (by simp))⟩
   . rw[if_neg (by simp)] at c;by_cases h1:200<first.size
     . have u1:decide ((first.size:Int) > 200)=true:=aV (by omega);rw[if_pos (A h1)] at c;go_enter func206,ntmps206;go_wp2_with fail;refine(s _).mono ?_;rintro e x ⟨rfl,g⟩;subst g;go_wp2_with fail;refine(v _).mono ?_;rintro e f ⟨rfl,a⟩;have y:=i f a;go_wp2;go_ret;exact⟨jV (by rw[c];rfl),d.trans (a.mono (by simp))⟩
     . have u1:decide ((first.size:Int) > 200)=F:=aW (by omega);by_cases h2:4000<nb
       . have u2:decide ((nb:Int) > 4000)=true:=aV (by omega);rw[if_pos (R h2)] at c;go_enter func206,ntmps206;go_wp2_with fail;refine(s _).mono ?_;rintro e x ⟨rfl,g⟩;subst g;go_wp2_with fail;refine(v _).mono ?_;rintro e f ⟨rfl,a⟩;have y:=i f a;go_wp2;go_ret;exact⟨jV (by rw[c];rfl),d.trans (a.mono (by simp))⟩
       . have u2:decide ((nb:Int) > 4000)=F:=aW (by omega);rw[if_neg (fun e=>by rcases e with e | e;exact h1 e;exact h2 e)] at c;by_cases h3:15<nf
         . have u3:decide ((nf:Int) > 15)=true:=aV (by omega);rw[if_pos h3] at c;go_enter func206,ntmps206;go_wp2_with fail;refine(s _).mono ?_;rintro e x ⟨rfl,g⟩;subst g;go_wp2_with fail;refine(v _).mono ?_;rintro e f ⟨rfl,a⟩;have y:=i f a;go_wp2;go_ret;exact⟨jV (by rw[c];rfl),d.trans (a.mono (by simp))⟩
         . have u3:decide ((nf:Int) > 15)=F:=aW (by omega);rw[if_neg h3] at c;by_cases h4:0<S
           . have u4:decide ((S:Int) > 0)=true:=aV (by omega);rw[if_pos (A h4)] at c;go_enter func206,ntmps206;go_wp2_with fail;refine(s _).mono ?_;rintro e x ⟨rfl,g⟩;subst g;go_wp2_with fail;refine(v _).mono ?_;rintro e f ⟨rfl,a⟩;have y:=i f a;go_wp2_with fail;refine(C f a).mono ?_;rintro e o ⟨rfl,j⟩;have b:=ar a j;have q3:=i o b;go_wp2;go_ret;exact⟨jV (by rw[c];rfl),d.trans (b.mono (by simp))⟩
           . have u4:decide ((S:Int) > 0)=F:=aW (by omega);by_cases h5:0<T
             . have u5:decide ((T:Int) > 0)=true:=aV (by omega);rw[if_pos (R h5)] at c;go_enter func206,ntmps206;go_wp2_with fail;refine(s _).mono ?_;rintro e x ⟨rfl,g⟩;subst g;go_wp2_with fail;refine(v _).mono ?_;rintro e f ⟨rfl,a⟩;have y:=i f a;go_wp2_with fail;refine(C f a).mono ?_;rintro e o ⟨rfl,j⟩;have b:=ar a j;have q3:=i o b;go_wp2_with fail;refine(k o b).mono ?_;rintro e z ⟨rfl,n⟩;have q:=ar b n;have r3:=i z q;go_wp2;go_ret;exact⟨jV (by rw[c];rfl),d.trans (q.mono (by simp))⟩
             . have u5:decide ((T:Int) > 0)=F:=aW (by omega);rw[if_neg (fun e=>by rcases e with e | e;exact h4 e;exact h5 e)] at c;by_cases h6:vh=1
               . have u6:((vh:Int) != 1)=F:=by rw[bne_eq_false_iff_eq];omega
                 rw[if_neg (fun e=>e h6)] at c;go_enter func206,ntmps206;go_wp2_with fail;refine(s _).mono ?_;rintro e x ⟨rfl,g⟩;subst g;go_wp2_with fail;refine(v _).mono ?_;rintro e f ⟨rfl,a⟩;have y:=i f a;go_wp2_with fail;refine(C f a).mono ?_;rintro e o ⟨rfl,j⟩;have b:=ar a j;have q3:=i o b;go_wp2_with fail;refine(k o b).mono ?_;rintro e z ⟨rfl,n⟩;have q:=ar b n;have r3:=i z q;go_wp2_with fail;refine(u z q).mono ?_;rintro e w5 ⟨rfl,B⟩;have oP:=ar q B;go_wp2;go_ret;exact⟨jV (by rw[c];rfl),d.trans (oP.mono (by simp))⟩
               . have u6:((vh:Int) != 1)=true:=by rw[cW];omega
                 rw[if_pos h6] at c;go_enter func206,ntmps206;go_wp2_with fail;refine(s _).mono ?_;rintro e x ⟨rfl,g⟩;subst g;go_wp2_with fail;refine(v _).mono ?_;rintro e f ⟨rfl,a⟩;have y:=i f a;go_wp2_with fail;refine(C f a).mono ?_;rintro e o ⟨rfl,j⟩;have b:=ar a j;have q3:=i o b;go_wp2_with fail;refine(k o b).mono ?_;rintro e z ⟨rfl,n⟩;have q:=ar b n;have r3:=i z q;go_wp2_with fail;refine(u z q).mono ?_;rintro e w5 ⟨rfl,B⟩;have oP:=ar q B;go_wp2;go_ret;exact⟨jV (by rw[c];rfl),d.trans (oP.mono (by simp))⟩
theorem Me:Builder.Extra prog Tryz.lays156_ren where
 sizeBuilder:=by kernel_rfl
 liesBuilder:=by kernel_rfl
 t5:=underlying5
 a5:=isAgg5
 z5:=Tryz.sizeOf5
 v5:=Tryz.zeroValue5
 infoByte:=by kernel_rfl
 cellsByte:=by kernel_rfl
 sizeByte:=by kernel_rfl
 neB5:=by decide
theorem Et (x y z:ag)(bk:Nat)(w:X)(c:w.cell? ⟨bk,0,U⟩=M (V x))(f:w.cell? ⟨bk,1,U⟩=M (V y))(g:w.cell? ⟨bk,2,U⟩=M (V z))(k:x.size+y.size+z.size<=1000000):
 Calls prog 205 #[Z (M ⟨bk,0,U⟩) 3 3,V ⟨#[32]⟩] w fun e w'=>e=Y (V ⟨(x.data.toList++32::(y.data.toList++32::z.data.toList)).toArray⟩)∧Below w.heap.size w w':=by
 have d:Lib.join (([x,y,z]:List ag).map (·.data.toList)) [32]=x.data.toList++32::(y.data.toList++32::z.data.toList):=by
  simp[Lib.join,List.intercalate,List.intersperse]
 have b:∀s:ag,s.data.toList.length=s.size:=fun s=>by rw[cy];rfl
 have h:=Any.strings_Join Tryz.lays156 Me bk 0 3 [x,y,z] ⟨#[32]⟩ w (fun j u a=>by
  match j,a with
  | 0,a=>injection a with a;subst a;simpa using c
  | 1,a=>injection a with a;subst a;simpa using f
  | 2,a=>injection a with a;subst a;simpa using g
  | j + 3, a => simp at a) (bI w _ c) (by simp) (by simp) (by
    show(Lib.join (([x,y,z]:List ag).map (·.data.toList)) [32]).length<=_;rw[d];have:=b x;have:=b y;have:=b z
    simp only[aF,bO];omega)
 have i:=d;rw[i] at h;exact h
