/- Small texts, one behind the other: FdVals, RfVals, RfOneOf, FsA, RfLine, RfFind. -/
import Derived.Test.YtjmndjmhjleabaaGreatDoorPk10
import Derived.Test.YtjmndjmhjleabaaGreatDoorPk5
open Go.Value renaming int->I,string->V,slice->Z
open Go.IntKind renaming i64->J
open Go.Ending renaming returned->Y
open Option renaming none->U,some->M
open Bool renaming false->F
open Go renaming World->X
set_option maxHeartbeats 1600000
set_option maxRecDepth 100000
open Go.Proofs.Tryz
namespace Go.Proofs.YtjmndjmhjleabaaGreatDoor
open Go.RowKit
theorem D8:(prog.info? 9).map (fun i=>(i.zero,i.size,i.bytes))=M (M (V ⟨#[]⟩),1,16):=by kernel_rfl
def Fd.vals (name:av)(l:ak):List av:=(l.filter fun p=>decide (Ch.lower p.1.data.toList=Ch.lower name.data.toList)).map (·.2)
theorem Fd.Ib (a:av)(l:ak)(p:av×av):
 Fd.vals a (l++[p])=if Ch.lower p.1.data.toList=Ch.lower a.data.toList then Fd.vals a l++[p.2] else Fd.vals a l:=by
 unfold Fd.vals;rw[List.filter_append,bF];by_cases h:Ch.lower p.1.data.toList=Ch.lower a.data.toList
 . rw[if_pos h];simp[h]
 . rw[if_neg h];simp[h]
theorem Fd.kN (a:av)(l:ak):(Fd.vals a l).length<=l.length:=by
 unfold Fd.vals;rw[aD];exact List.length_filter_le _ _
def Fd.one (vs:List av):au×Nat :=
 match vs with
 | []=>([],10)
 | [v]=>(v.data.toList,0)
 | _=>([],9)
def Fd.val (t:Fd.Told):Value:=.tuple #[.agg #[V ⟨t.name.toArray⟩,V ⟨t.value.toArray⟩],I J (t.code:Int)]
theorem zS (l:ak)(a:av)(ao:aj)(cap n:Nat)(w:X)(hl:jm w ao cap n (gT l))(hn:l.length=n)(hN:n<=1000000)(hs:∀p∈l,p.1.size<=2000)(hnm:a.size<=2000):
 Calls prog 69 #[Z ao n cap,V a] w fun e w'=>∃gV b,e=Y (Z gV (Fd.vals a l).length b)∧gU w' w.heap.size 9 1 gV b (Fd.vals a l).length (oH (Fd.vals a l))∧Below w.heap.size w w':=by
 subst hn;obtain⟨i0,B,C,D,G⟩:=info_parts D8;have Hi:=H9 B;have kJ:=H9 C;have kG:=H9 D;have kK:=H9 G
 have H:=H9 hl;have Hs:=H9 hs;have i:=H9 (fun W=>xJ a W hnm);clear hl hs B C D G;go_enter func69,ntmps69;go_wp2;go_loopw [5,6] (fun v t wr=>∃(k:Nat) (gV:aj) (b:Nat),k<=l.length∧t=I J k∧v=Z gV (Fd.vals a (l.take k)).length b∧gU wr w.heap.size 9 1 gV b (Fd.vals a (l.take k)).length (oH (Fd.vals a (l.take k)))∧Below w.heap.size w wr) (fun _ t _=>l.length-(intOf t).toNat)
 case atStart=>exact⟨0,U,0,ay _,rfl,rfl,gU.nil _ _ _ _,fI _ _⟩
 case round =>
  obtain⟨k,gV,b,hk,rfl,rfl,hO,hB⟩:=hrel;have O:=H9 hO;have P:=H9 hB
  clear hO hB;have hvl:=Fd.kN a (l.take k);have hvk:(l.take k).length<=k:=dL _ _;by_cases g:k<l.length
  . have hpl:0<(gT l).length:=by rw[mV];omega
    obtain⟨bb,oo,rfl,j⟩:=H.o.lit hpl;have HC:Hid (∀W,Below w.heap.size w W->W.cell? ⟨bb,oo+k*2,U⟩=M (V l[k].1)∧W.cell? ⟨bb,oo+k*2+1,U⟩=M (V l[k].2)):=fun W hW=>by
     have L:=j _ _ (nX l k g).1;have h2:=j _ _ (nX l k g).2;rw[<-bK] at h2;exact⟨(hW.cell (fZ w _ L)).trans L,(hW.cell (fZ w _ h2)).trans h2⟩
    clear j;have HT:Hid (l.take (k+1)=l.take k++[l[k]]):=bN g;have hp1:=Hs.o l[k] (aB g);have m:=H9 (fun W=>xJ l[k].1 W hp1);have N:=(HC.o wr P.o).1;have hlt':(k:Int)<l.length:=by omega
    have s:=H9 (Fd.Ib a (l.take k) l[k]);rw[<-HT.o] at s;generalize l[k]=p at *;have x:Hid (((⟨(Ch.lower p.1.data.toList).toArray⟩:av).toList==(⟨(Ch.lower a.data.toList).toArray⟩:av).toList)=decide (Ch.lower p.1.data.toList=Ch.lower a.data.toList)):=by
     unfold Hid;rw[Lib.toList_data,Lib.toList_data,aG];simp
    generalize (⟨(Ch.lower p.1.data.toList).toArray⟩:av)=sp at m x;generalize (⟨(Ch.lower a.data.toList).toArray⟩:av)=sn at i x;generalize Fd.vals a (l.take k)=r at O s hvl;by_cases d:Ch.lower p.1.data.toList=Ch.lower a.data.toList
    . have hx:=x.o;rw[aH d] at hx;have S:Hid (Fd.vals a (l.take (k+1))=r++[p.2]):=by have:=s.o;rw[if_pos d] at this;exact this
      clear s x d;go_wp2_with fail
      refine(m.o _).mono ?_;rintro e w1 ⟨rfl,n1,f⟩;subst f;go_wp2_with fail
      refine(i.o _).mono ?_;rintro e z ⟨rfl,n2,f⟩;have c:Hid (Below w.heap.size w z):=by rw[f];exact P.o.trans ⟨rfl,rfl,rfl,aL _,fun _ _=>rfl⟩
      have T:Hid (gU z w.heap.size 9 1 gV b r.length (oH r)):=by rw[f];exact O.o
      clear f N;have hc1:=(HC.o z c.o).2;go_wp2_with (at_builtin;refine gQ rfl (.tmp 22) (.tmp 28) 134 rfl w.heap.size 9 i0 (V ⟨#[]⟩) 1 16 underlying134 Hi.o kJ.o kG.o kK.o rfl (by decide) rfl (T.o.alloc _) rfl (jm.made _ _ 1 _ _) rfl (fun u hu=>by simp at hu;subst hu;rfl) (by omega) (by omega) (by have:=c.o.size;simp;omega) ?_;intro jP gW w3 hO3 hG3 _)
      go_roundw
      case rel =>
       have e1:Fd.vals a (l.take (k+1))=r++[p.2]:=S.o;refine⟨k+1,jP,gW,by omega,by go_num,by rw[e1,aV];rfl,?_,?_⟩
       . rw[e1,aV,vP];exact hO3
       . exact(c.o.alloc c.o.size _).grown hG3 (by have:=c.o.size;simp;omega) (fun q e=>by
          cases gV with
          | none=>simp[gK] at e
          | some y=>simp only[gK,bT] at e;have:=(T.o.block y rfl).1;omega)
      case measure=>simp[intOf];omega
    . have hx:=x.o;rw[aI d] at hx;have S:Hid (Fd.vals a (l.take (k+1))=r):=by have:=s.o;rw[if_neg d] at this;exact this
      clear s x d;go_wp2_with fail
      refine(m.o _).mono ?_;rintro e w1 ⟨rfl,n1,f⟩;subst f;go_wp2_with fail
      refine(i.o _).mono ?_;rintro e z ⟨rfl,n2,f⟩;have c:Hid (Below w.heap.size w z):=by rw[f];exact P.o.trans ⟨rfl,rfl,rfl,aL _,fun _ _=>rfl⟩
      have T:Hid (gU z w.heap.size 9 1 gV b r.length (oH r)):=by rw[f];exact O.o
      clear f N;go_wp2;go_roundw
      case rel=>exact⟨k+1,gV,b,by omega,by go_num,by rw[S.o],by rw[S.o];exact T.o,c.o⟩
      case measure=>simp[intOf];omega
  . obtain rfl:k=l.length:=by omega
    go_wp2;go_ret;have e:l.take l.length=l:=bO;have L:=O.o;rw[e] at L;exact⟨gV,b,by rw[e];rfl,L,P.o⟩
theorem R9 (l:ak)(a:av)(ao:aj)(cap n:Nat)(w:X)(r:jm w ao cap n (gT l))(s:l.length=n)(B:n<=1000000)(u:∀p∈l,p.1.size<=2000)(k:a.size<=2000):
 Calls prog 54 #[Z ao n cap,V a] w fun e w'=>e=Y (rP (Fd.one (Fd.vals a l)))∧Below w.heap.size w w':=by
 have d:=H9 (zS l a ao cap n w r s B u k);have f:=Fd.kN a l;rw[s] at f;generalize Fd.vals a l=m at d f;clear r u;rcases m with _ | ⟨v,_ | ⟨j,t⟩⟩
 . go_enter func54,ntmps54;go_wp2_with fail
   refine d.o.mono ?_;rintro e x ⟨y,z,rfl,b,c⟩;have q:=H9 b;have g:=H9 c
   clear b c d;go_wp2;go_ret2;exact⟨qj (p:=([],10)) rfl rfl,g.o⟩
 . go_enter func54,ntmps54;go_wp2_with fail
   refine d.o.mono ?_;rintro e x ⟨y,z,rfl,b,c⟩;have q:=H9 b;have g:=H9 c
   clear b c d;obtain⟨G,H,rfl,i⟩:=q.o.nP.lit (by simp[oH]);have C:=i 0 (V v) rfl;rw[bJ] at C;clear i;go_wp2;go_ret2;exact⟨qj (p:=(v.data.toList,0)) rfl rfl,g.o⟩
 . have N:(((v::j::t).length:Int)==0)=F:=by rw[aR,aW,aW];omega
   have O:decide (((v::j::t).length:Int) > 1)=true:=by rw[bQ,aW,aW];omega
   have D:Hid (Fd.one (v::j::t)=([],9)):=rfl;generalize v::j::t=m at *;generalize m.length=L at *;go_enter func54,ntmps54;go_wp2_with fail
   refine d.o.mono ?_;rintro e x ⟨y,z,rfl,b,c⟩;have q:=H9 b;have g:=H9 c
   clear b c d;go_wp2;go_ret2;exact⟨qj (p:=([],9)) D.o rfl,g.o⟩
def Ba (c:UInt8)(l:au)(r:Int):Prop:=(r=-1∧∀j (hj:j<l.length),l[j]≠c)∨∃i:Nat,∃hi:i<l.length,r=i∧l[i]=c∧∀j (hj:j<l.length),i<j->l[j]≠c
theorem byte_at (s:av)(i:Nat)(h:i<s.size):s.data.toList[i]'(by rw[Ch.iC];exact h)=s[i]:=by
 rw[Array.getElem_toList];rfl
theorem SE (s:av)(c:UInt8)(w:X)(p:s.size<=maxLen):
 Calls prog 314 #[V s,I .u8 c.toNat] w fun e w'=>∃r:Int,e=Y (I J r)∧Ba c s.data.toList r∧w'=w:=by
 have q:=Ch.iC s;have u:(s.size:Int)<=9223372036854775807:=by unfold maxLen at p;omega
 go_enter func314,ntmps314;go_wp2;go_loopw [5] (fun t wr=>wr=w∧∃k:Nat,k<=s.size∧t=I J ((k:Int)-1)∧∀j (a:j<s.data.toList.length),k<=j->s.data.toList[j]≠c) (fun t _=>((intOf t)+1).toNat)
 case atStart=>exact⟨rfl,s.size,aL _,rfl,fun j a h=>by omega⟩
 case round =>
  obtain⟨rfl,k,z,rfl,d⟩:=hrel;have f:=H9 d;clear d;cases k with
  | zero =>
    have g:Hid (Ba c s.data.toList (-1)):=Or.inl ⟨rfl,fun j a=>f.o j a (ay _)⟩;go_wp2;go_ret;exact⟨-1,rfl,g.o,rfl⟩
  | succ i =>
    have l:i<s.size:=by omega
    have v:((i+1:Nat):Int)-1=(i:Int):=by omega
    rw[v];have x:(i:Int)≥0:=by omega
    have n:(i:Int)<s.size:=by omega
    by_cases b:s[i]=c
    . have y:((s[i].toNat:Int)==(c.toNat:Int))=true:=by rw[b];exact fB _
      have g:Hid (Ba c s.data.toList (i:Int)):=Or.inr ⟨i,by rw[q];exact l,rfl,by rw[byte_at s i l];exact b,fun j a h=>f.o j a h⟩;clear b f;go_wp2;go_ret;exact⟨i,rfl,g.o,rfl⟩
    . have y:((s[i].toNat:Int)==(c.toNat:Int))=F:=by rw[aR];intro e;exact b (dQ.1 (by omega))
      have m:Hid (∀j (a:j<s.data.toList.length),i<=j->s.data.toList[j]≠c):=fun j a h=>by
       rcases Nat.lt_or_eq_of_le h with h | h
       . exact f.o j a h
       . subst h;rw[byte_at s i l];exact b
      clear b f;go_wp2;go_roundw
      case rel=>exact⟨trivial,i,by omega,by go_num,m.o⟩
      case measure=>simp[intOf]
theorem Iq (s:av)(c:UInt8)(w:X)(a:s.size<=maxLen):
 Calls prog 312 #[V s,I .u8 c.toNat] w fun e w'=>∃r:Int,e=Y (I J r)∧Ba c s.data.toList r∧w'=w:=by
 have H:=H9 (SE s c w a);go_enter func312,ntmps312;go_wp2_with fail
 refine H.o.mono ?_;rintro e w' ⟨r,rfl,b,d⟩;subst d;go_wp2;go_ret;exact⟨r,rfl,b,rfl⟩
theorem SF (w:X)(ao:aj)(cap n:Nat)(l:au)(c:UInt8)(h:iG w ao cap l)(v:l.length=n):
 Calls prog 315 #[Z ao n cap,I .u8 c.toNat] w fun e w'=>∃gV a d,e=Y (Z gV d a)∧d=(l.dropWhile (·==c)).length∧iG w gV a (l.dropWhile (·==c))∧w'=w:=by
 have N:=H9 h;have O:=H9 v;clear h v;go_enter func315,ntmps315;go_wp2;go_loopw [0] (fun t wr=>wr=w∧∃(gV:aj) (a d:Nat) (r:au),t=Z gV d a∧d=r.length∧iG w gV a r∧r.dropWhile (·==c)=l.dropWhile (·==c)) (fun t _=>match t with | Z _ k _=>k | _=>0)
 case atStart=>exact⟨rfl,ao,cap,n,l,rfl,O.o.symm,N.o,rfl⟩
 case round =>
  obtain⟨rfl,gV,a,d,r,rfl,b,y,z⟩:=hrel;have m:=H9 y;have q:=H9 z
  clear y z;cases r with
  | nil =>
    obtain rfl:d=0:=b;have g:Hid (l.dropWhile (·==c)=[]):=by unfold Hid;rw[<-q.o];rfl
    go_wp2;go_ret;exact⟨U,0,0,rfl,by rw[g.o];rfl,by rw[g.o];exact iG.nil _,rfl⟩
  | cons x t =>
    obtain⟨B,C,rfl,i⟩:=m.o.lit (by simp);have D:=i 0 (by simp);have D:wr.cell? ⟨B,C,U⟩=M (I .u8 (x.toNat:Int)):=by simpa using D
    have G:d<=a:=by rw[b];exact m.o.1
    have H:0<d:=by rw[b];simp
    have s:=H9 b;clear i;by_cases f:x=c
    . have P:((x.toNat:Int)==(c.toNat:Int))=true:=by rw[f];exact fB _
      have j:Hid (t.dropWhile (·==c)=l.dropWhile (·==c)):=by unfold Hid;rw[<-q.o,dV,if_pos (by simpa using f)]
      have hcut:∀p,(a≠1->p=M ⟨B,C+1,U⟩)->iG wr p (a-1) t:=fun p S=>by
       have:=m.o.cut (gV:=p) 1 (x::t).length (by simp) (aL _) (fun e=>by rw[S e];rfl);simpa using this
      have L:=H9 hcut;clear hcut f b;by_cases u:a=1
      . subst u;obtain rfl:d=1:=by omega
        go_wp2;go_roundw
        case rel=>exact⟨trivial,_,_,_,t,rfl,by have:=s.o;rw[aW] at this;omega,by simpa using L.o _ (fun e=>absurd rfl e),j.o⟩
        case measure=>simp
      . go_wp2;go_roundw
        case rel=>exact⟨trivial,_,_,_,t,rfl,by have:=s.o;rw[aW] at this;omega,L.o _ (fun _=>rfl),j.o⟩
        case measure=>simp;omega
    . have P:((x.toNat:Int)==(c.toNat:Int))=F:=by rw[aR];intro e;exact f (dQ.1 (by omega))
      have g:Hid (l.dropWhile (·==c)=x::t):=by unfold Hid;rw[<-q.o,dV,if_neg (by simpa using f)]
      have T:((d:Int)==0)=F:=by rw[aR];omega
      clear f b;go_wp2;go_ret;exact⟨_,_,d,rfl,by rw[g.o];exact s.o,by rw[g.o];exact m.o,rfl⟩
theorem Ov (w:X)(ao:aj)(cap n:Nat)(l:au)(h:iG w ao cap l)(b:l.length=n):
 Calls prog 313 #[Z ao n cap,V ⟨#[46]⟩] w fun e w'=>∃gV a c,e=Y (Z gV c a)∧c=(l.dropWhile (·==46)).length∧iG w gV a (l.dropWhile (·==46))∧w'=w:=by
 have d:=H9 (SF w ao cap n l 46 h b);by_cases f:n=0
 . subst f;obtain rfl:l=[]:=dn b;clear d h b;go_enter func313,ntmps313;go_wp2;go_ret;exact⟨U,0,0,rfl,rfl,iG.nil _,rfl⟩
 . have m:((n:Int)==0)=F:=by rw[aR];omega
   clear h b f;go_enter func313,ntmps313;go_wp2_with fail
   refine d.o.mono ?_;rintro e w' ⟨gV,a,c,rfl,g,i,j⟩;subst j;have k:=H9 g;clear g;go_wp2;go_ret;exact⟨gV,a,c,rfl,k.o,i,rfl⟩
def Ln.val (t:Ln.Told):Value:=.tuple #[V ⟨t.text.toArray⟩,I J (t.size:Int),.bool t.ended,I J (t.code:Int)]
theorem sD {v:Value}{t u:Ln.Told}(a:u=t)(h:v=Ln.val t):Ending.returned v=Y (Ln.val u):=by rw[h,a]
theorem FH (l:au)(ao:aj)(cap n:Nat)(w:X)(x:iG w ao cap l)(D:l.length=n)(S:n<=1000000):
 Calls prog 42 #[Z ao n cap] w fun e w'=>e=Y (Ln.val (Ln.of l))∧w'=w:=by
 subst D;have H:=H9 x;have B:=x.1;clear x;go_enter func42,ntmps42;go_wp2;go_loop [6] (fun t=>∃i:Nat,i<=l.length∧t=I J i∧Ln.of l=Ln.go l i (l.drop i)) (fun t=>l.length-(intOf t).toNat)
 case atStart=>exact⟨0,ay _,rfl,rfl⟩
 case round =>
  obtain⟨i,T,rfl,b⟩:=hrel;by_cases p:i<l.length
  . obtain⟨W,oo,rfl,q⟩:=H.o.lit (by omega);have r:=H9 q;clear q;have y:=r.o i p;have C:(i:Int)<l.length:=by omega
    rw[Ln.Kc l i p] at b;have hb:=l[i].toNat_lt;by_cases g:l[i]=13
    . rw[if_pos g] at b;have G:((l[i].toNat:Int)==13)=true:=by rw[g];rfl
      by_cases z:i+1<l.length
      . rw[dif_pos z] at b;have L:((i:Int)+1==l.length)=F:=by rw[aR];omega
        have v:=r.o (i+1) z;have b1:(i:Int)+1<l.length:=by omega
        by_cases a:l[i+1]=10
        . rw[if_pos a] at b;have j:((l[i+1].toNat:Int) != 10)=F:=by rw[a];rfl
          have N:=(H.o.first i (by omega)).str (P:=prog) 31 9 5 underlying31 underlying5 underlying9;rw[bX,dU (by omega)] at N;have b2:(i:Int)<=cap:=by omega
          have f:=H9 b;clear b g a;generalize l[i]=c at *;generalize l[i+1]=d at *;go_wp2;(try simp only[Exit.inBlock,Exit.then]);refine gq (gX rfl _ _ _) rfl ?_;exact⟨sD f.o rfl,rfl⟩
        . rw[if_neg a] at b;have j:((l[i+1].toNat:Int) != 10)=true:=CZ a;have f:=H9 b;clear b g a;generalize l[i]=c at *;generalize l[i+1]=d at *;go_wp2;(try simp only[Exit.inBlock,Exit.then]);refine gq (gX rfl _ _ _) rfl ?_;exact⟨sD f.o rfl,rfl⟩
      . rw[dif_neg z] at b;have L:((i:Int)+1==l.length)=true:=by rw[aS];omega
        have f:=H9 b;clear b g;generalize l[i]=c at *;go_wp2;(try simp only[Exit.inBlock,Exit.then]);refine gq (gX rfl _ _ _) rfl ?_;exact⟨sD f.o rfl,rfl⟩
    . rw[if_neg g] at b;have G:((l[i].toNat:Int)==13)=F:=kY g;by_cases a:l[i]=10
      . rw[if_pos a] at b;have j:((l[i].toNat:Int)==10)=true:=by rw[a];rfl
        have f:=H9 b;clear b g a;generalize l[i]=c at *;go_wp2;(try simp only[Exit.inBlock,Exit.then]);refine gq (gX rfl _ _ _) rfl ?_;exact⟨sD f.o rfl,rfl⟩
      . rw[if_neg a] at b;have j:((l[i].toNat:Int)==10)=F:=kY a;have s:=H9 (yR (l[i].toNat:Int) w);cases k:Ch.visible l[i].toNat
        . rw[k] at s;rw[if_pos k] at b;have f:=H9 b;clear b g a k;generalize l[i]=c at *;go_wp2_with fail
          refine s.o.mono ?_;rintro e w' ⟨rfl,u⟩;subst u;go_wp2;(try simp only[Exit.inBlock,Exit.then]);refine gq (gX rfl _ _ _) rfl ?_;exact⟨sD f.o rfl,rfl⟩
        . rw[k] at s;rw[if_neg (by rw[k];simp)] at b;by_cases m:i=200
          . rw[if_pos m] at b;subst m;have f:=H9 b;clear b g a k;generalize l[200]=c at *;go_wp2_with fail
            refine s.o.mono ?_;rintro e w' ⟨rfl,u⟩;subst u;go_wp2;(try simp only[Exit.inBlock,Exit.then]);refine gq (gX rfl _ _ _) rfl ?_;exact⟨sD f.o rfl,rfl⟩
          . rw[if_neg m] at b;have O:((i:Int)==200)=F:=by rw[aR];omega
            have f:=H9 b;clear b g a k;generalize l[i]=c at *;go_wp2_with fail
            refine s.o.mono ?_;rintro e w' ⟨rfl,u⟩;subst u;go_wp2;go_round
            case rel=>exact⟨i+1,by omega,by go_num,f.o⟩
            case measure=>simp[intOf];omega
  . rw[Ln.Dg l i (by omega)] at b;have f:=H9 b;clear b;obtain rfl:i=l.length:=by omega
    go_wp2;(try simp only[Exit.inBlock,Exit.then]);refine gq (gX rfl _ _ _) rfl ?_;exact⟨sD f.o rfl,rfl⟩
def qd (m x:au)(i:Nat):Prop:=i+m.length<=x.length∧(x.drop i).take m.length=m
def PU (m x:au)(r:Int):Prop:=(r=-1∧∀j,¬qd m x j)∨∃k:Nat,r=k∧qd m x k∧∀j,j<k->¬qd m x j
theorem Ux (w:X)(ao:aj)(cap:Nat)(x:au)(s:av)(a:iG w ao cap x)(c:s.size=0):
 Calls prog 75 #[Z ao x.length cap,V s] w fun e w'=>e=Y (I J 0)∧w'=w:=by
 have d:(s.size:Int)=0:=by omega
 have b:=a.1;have g:s.toList=[]:=by
  rw[Lib.toList_data];exact dn (by rw[aN];exact c)
 have f:=(a.first 0 (ay _)).str (P:=prog) 31 9 5 underlying31 underlying5 underlying9;simp only[List.take_zero,bZ] at f;clear a;go_enter func75,ntmps75;go_wp2;go_loop [5] (fun t=>t=I J 0) (fun _=>0)
 case atStart=>rfl
 case round =>
  subst hrel;go_wp2;go_ret;exact⟨rfl,rfl⟩
theorem Uy (w:X)(ao:aj)(cap:Nat)(x:au)(s:av)(g:iG w ao cap x)(v:s.size<=1000000)(y:0<s.size)(z:x.length<=1000000):
 Calls prog 75 #[Z ao x.length cap,V s] w fun e w'=>∃r,e=Y (I J r)∧PU s.data.toList x r∧w'=w:=by
 have p:=g.1;have H:=H9 g;have f:Hid (s.data.toList.length=s.size):=by unfold Hid;rw[aN];rfl
 clear g;go_enter func75,ntmps75;go_wp2;go_loop [5] (fun t=>∃k:Nat,k<=x.length∧t=I J k∧∀j,j<k->¬qd s.data.toList x j) (fun t=>x.length+1-(intOf t).toNat)
 case atStart=>exact⟨0,ay _,rfl,fun j h=>by omega⟩
 case round =>
  obtain⟨k,B,rfl,c⟩:=hrel;have i:=H9 c;clear c;by_cases d:k+s.size<=x.length
  . obtain⟨a,rfl⟩:=H.o.some (by omega);have C:(k:Int)+s.size<=x.length:=by omega
    have D:(k:Int)+s.size<=cap:=by omega
    have G:((k:Int)+s.size).toNat=k+s.size:=by omega
    have L:¬cap=k:=by omega
    have u:k+s.size-k=s.size:=by omega
    have N:(convert 31 9 (Z (M (a.add k)) s.size (cap-k))).run prog w=.ok (V ⟨((x.drop k).take s.size).toArray⟩) w:=by
     have h:=H.o.cut (gV:=M (a.add k)) k (k+s.size) (by omega) d (fun _=>rfl);rw[u] at h;have q:=h.str (P:=prog) 31 9 5 underlying31 underlying5 underlying9;rw[bX,bU,dU (by omega)] at q;exact q
    by_cases b:(x.drop k).take s.size=s.data.toList
    . have l:Hid (qd s.data.toList x k):=⟨by rw[f.o];exact d,by rw[f.o];exact b⟩;have m:((x.drop k).take s.size==s.toList)=true:=by rw[Lib.toList_data,b];exact fB _
      clear b;go_wp2;go_ret;exact⟨k,rfl,Or.inr ⟨k,rfl,l.o,i.o⟩,rfl⟩
    . have l:Hid (¬qd s.data.toList x k):=fun h=>b (by have:=h.2;rwa[f.o] at this);have m:((x.drop k).take s.size==s.toList)=F:=by rw[Lib.toList_data,aR];exact b
      clear b;go_wp2;go_round
      case rel =>
       refine⟨k+1,by omega,by go_num,fun j n=>?_⟩;by_cases e:j=k
       . subst e;exact l.o
       . exact i.o j (by omega)
      case measure=>simp[intOf];omega
  . have O:decide ((k:Int)+s.size<=x.length)=F:=by rw[bP];omega
    go_wp2;go_ret;refine⟨-1,rfl,Or.inl ⟨rfl,fun j n=>?_⟩,rfl⟩;by_cases e:j<k
    . exact i.o j e n
    . have:=n.1;rw[f.o] at this;omega
theorem FI (w:X)(ao:aj)(cap n:Nat)(x:au)(s:av)(a:iG w ao cap x)(b:x.length=n)(c:s.size<=1000000)(d:n<=1000000):
 Calls prog 75 #[Z ao n cap,V s] w fun e w'=>∃r,e=Y (I J r)∧PU s.data.toList x r∧w'=w:=by
 subst b;by_cases h:s.size=0
 . refine(Ux w ao cap x s a h).mono ?_;rintro e w' ⟨rfl,f⟩;have e:s.data.toList=[]:=by
    exact dn (by rw[aN];exact h)
   exact⟨0,rfl,Or.inr ⟨0,rfl,⟨by rw[e];simp,by rw[e];rfl⟩,fun j g=>by omega⟩,f⟩
 . exact Uy w ao cap x s a c (by omega) d
theorem FJ {c:UInt8}{l:au}{r:Int}(h:PU [c] l r):(r=-1∧Fd.at_ c l=l.length)∨(r=(Fd.at_ c l:Int)∧Fd.at_ c l<l.length):=by
 have a:∀j (b:j<l.length),qd [c] l j<->l[j]=c:=fun j b=>by
  unfold qd;rw[aC b];constructor
  . rintro ⟨_,h⟩;exact(List.cons.inj (show l[j]::List.take 0 _=c::[] from h)).1
  . intro e;exact⟨by simp;omega,by rw[e];rfl⟩
 rcases h with ⟨f,d⟩ | ⟨k,f,d,i⟩
 . exact Or.inl ⟨f,Fd.Qa (fun j b e=>d j ((a j b).2 e))⟩
 . have g:k<l.length:=by have:=d.1;simp at this;omega
   have e:=Fd.aaC g ((a k g).1 d) (fun j b e=>i j b ((a j (by omega)).2 e));exact Or.inr ⟨by rw[e];exact f,by omega⟩
end Go.Proofs.YtjmndjmhjleabaaGreatDoor