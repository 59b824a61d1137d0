import Derived.Deep.DeepCutAuto
import Derived.Test.YtodmelffkfbalaaGreatDoorPk22
open Go.Value renaming int->I,string->V
open Go.IntKind renaming i64->J
open Option renaming none->U
open Bool renaming false->F
open Go renaming World->X
set_option maxHeartbeats 4000000
set_option maxRecDepth 100000
open Go.Proofs.Tryz
namespace Go.Proofs.YtodmelffkfbalaaGreatDoor
open Go.RowKit
def pb (b:ab):Int×Nat:=match dm b with
 | none=>(0,0)
 | some p=>p
theorem RE (b:ab):pb b=match kb b with
 | none=>(0,0)
 | some (m,s)=>((m:Int)-1,s):=by
 unfold pb dm;cases kb b <;> rfl
def pW (b:ab)(i S:Nat):Prop:=S<128 ^ i∧kb b=(fr (5-i) (decide (i=0)) (b.drop i)).map fun p=>(S+128 ^ i*p.1,p.2+i)
theorem pW.y (b:ab):pW b 0 0:=by
 refine⟨by decide,?_⟩;unfold kb;show _=(fr 5 true b).map _;cases fr 5 true b with
 | none=>rfl
 | some p=>simp
theorem pW.f {b:ab}{i S:Nat}(h:pW b i S)(c:¬(i<b.length∧i<5)):kb b=U:=by
 rw[h.2];by_cases d:i<5
 . rw[oO (by omega),LN];rfl
 . obtain⟨k,a⟩:∃k,k=5-i:=⟨_,rfl⟩;rw[<-a,show k=0 by omega];rfl
theorem pW.r {b:ab}{i S:Nat}(h:pW b i S)(a:i<5)(c:i<b.length)(d:¬b[i].toNat<128):pW b (i+1) (S+b[i].toNat % 128*128 ^ i):=by
 refine⟨?_,?_⟩
 . have g:=h.1;rw[Nat.pow_succ];have e:b[i].toNat % 128<=127:=by omega
   have j:b[i].toNat % 128*128 ^ i<=127*128 ^ i:=Nat.mul_le_mul_right _ e;omega
 . rw[h.2,Av b i a c _ rfl,if_neg d];have f:decide (i+1=0)=F:=by simp
   rw[f];cases fr (5-(i+1)) F (b.drop (i+1)) with
   | none=>rfl
   | some p =>
     obtain⟨m,s⟩:=p;simp only[Option.map_some];congr 2
     . rw[Nat.pow_succ,Nat.mul_add,gE];congr 2
       . exact Nat.mul_comm _ _
       . rw[Nat.mul_assoc]
     . omega
theorem pW.a {b:ab}{i S:Nat}(h:pW b i S)(a:i<5)(c:i<b.length)(d:b[i].toNat=0)(e:0<i):kb b=U:=by grind [pW,kb,Av]
theorem pW.j {b:ab}{i S:Nat}(h:pW b i S)(c:i<5)(d:i<b.length)(a:b[i].toNat<128)(e:¬(b[i].toNat=0∧0<i)):kb b=some (S+b[i].toNat % 128*128 ^ i,i+1):=by
 rw[h.2,Av b i c d _ rfl,if_pos a,if_neg (by rintro ⟨f,g⟩;exact e ⟨f,by simp at g;omega⟩)];simp only[Option.map_some];rw[Nat.mod_eq_of_lt a,Nat.mul_comm];congr 2;omega
theorem zp {i:Nat}(h:i<5):i=0∨i=1∨i=2∨i=3∨i=4:=by omega
theorem Ht (b:ab)(ao:ag)(cap n:Nat)(w:X)(v:aB w ao cap b)(G:b.length=n)(hN:n<=1000000000):
 Calls prog 246 #[.slice ao n cap] w fun e w'=>e=.returned (.tuple #[I J (pb b).1,I J ((pb b).2:Int)])∧w'=w:=by
 have d:=aa (RE b);have z:=aa v;have q:=v.1;rw[G] at q;obtain⟨k,H,r⟩:∃k:Nat,k<=5∧(k=n∧n<=5∨k=5∧5<n):=by
  by_cases h:n<=5
  . exact⟨n,h,Or.inl ⟨rfl,h⟩⟩
  . exact⟨5,ak _,Or.inr ⟨rfl,by omega⟩⟩
 clear v;go_enter func246,ntmps246;go_upto_region 2 with fail
 go_cut [11,12,13] (fun x L s N=>x=.slice ao k cap∧L=I J k∧s=I J 0∧N=w)
 case first =>
  rcases r with ⟨rfl,T⟩ | ⟨rfl,T⟩
  . have y:¬(5:Int)<k:=by omega
    go_wp2;go_meet;exact⟨rfl,rfl,rfl,rfl⟩
  . have y:(5:Int)<n:=by omega
    have W:(5:Int)<=cap:=by omega
    go_wp2;go_meet;exact⟨rfl,rfl,rfl,rfl⟩
 case rest =>
  obtain⟨rfl,rfl,rfl,rfl⟩:=hcut;have B:k<=n:=by omega
  have HK:Hid (∀i,¬i<k->¬(i<b.length∧i<5)):=fun i hi=>by omega
  clear r;go_wp2;go_loopw [4,13] (fun x s wr=>∃(i S:Nat),i<=k∧x=I J S∧s=I J i∧pW b i S∧wr=wc) (fun _ s _=>k-(intOf s).toNat)
  case atStart=>exact⟨0,0,ax _,rfl,rfl,pW.y b,rfl⟩
  case round =>
   obtain⟨i,S,hi,rfl,rfl,p,hw⟩:=hrel;subst hw;have HR:=aa p;by_cases hlt:i<k
   . obtain⟨bb,oo,rfl,C⟩:=z.o.r (by omega);have f:i<b.length:=by omega
     have t:=C i f;have D:(i:Int)<k:=by omega
     have g:=p.r (by omega) f;have j:=p.a (by omega) f;have l:=p.j (by omega) f;have hS:=p.1;clear p z C;generalize b[i]=c at *;have hcl:=c.toNat_lt;by_cases m:c.toNat<128
     . have h1:¬(128:Int)<=c.toNat:=by omega
       by_cases u:c.toNat=0∧0<i
       . have a:=aa (j u.1 u.2);have hz1:((c.toNat:Int)==0)=true:=by rw[cR];omega
         obtain⟨hz2,hz3⟩:=u;clear g j l;rcases zp (i:=i) (by omega) with rfl | rfl | rfl | rfl | rfl
         . omega
         . skip;go_wp2;go_ret2;exact⟨by rw[d.o,a.o];rfl,rfl⟩
         . skip;go_wp2;go_ret2;exact⟨by rw[d.o,a.o];rfl,rfl⟩
         . skip;go_wp2;go_ret2;exact⟨by rw[d.o,a.o];rfl,rfl⟩
         . skip;go_wp2;go_ret2;exact⟨by rw[d.o,a.o];rfl,rfl⟩
       . have a:=aa (l m u);clear g j l;rcases zp (i:=i) (by omega) with rfl | rfl | rfl | rfl | rfl
         . rw[mA] at t;go_wp2;all_goals
            go_ret2;refine⟨?_,rfl⟩;rw[d.o,a.o];first | (simp;done) | (simp;omega)
         . skip;go_wp2;all_goals
            go_ret2;refine⟨?_,rfl⟩;rw[d.o,a.o];first | (simp;done) | (simp;omega)
         . skip;go_wp2;all_goals
            go_ret2;refine⟨?_,rfl⟩;rw[d.o,a.o];first | (simp;done) | (simp;omega)
         . skip;go_wp2;all_goals
            go_ret2;refine⟨?_,rfl⟩;rw[d.o,a.o];first | (simp;done) | (simp;omega)
         . skip;go_wp2;all_goals
            go_ret2;refine⟨?_,rfl⟩;rw[d.o,a.o];first | (simp;done) | (simp;omega)
     . have h1:(128:Int)<=c.toNat:=by omega
       have a:=aa (g m);clear g j l;rcases zp (i:=i) (by omega) with rfl | rfl | rfl | rfl | rfl
       . rw[mA] at t;go_wp2;go_roundw
         case rel=>exact⟨1,S+c.toNat % 128*128 ^ 0,by omega,by first | (congr 1;done) | (congr 1;omega),by go_num,a.o,by first | rfl | trivial⟩
         case measure=>simp[intOf];omega
       . skip;go_wp2;go_roundw
         case rel=>exact⟨2,S+c.toNat % 128*128 ^ 1,by omega,by first | (congr 1;done) | (congr 1;omega),by go_num,a.o,by first | rfl | trivial⟩
         case measure=>simp[intOf];omega
       . skip;go_wp2;go_roundw
         case rel=>exact⟨3,S+c.toNat % 128*128 ^ 2,by omega,by first | (congr 1;done) | (congr 1;omega),by go_num,a.o,by first | rfl | trivial⟩
         case measure=>simp[intOf];omega
       . skip;go_wp2;go_roundw
         case rel=>exact⟨4,S+c.toNat % 128*128 ^ 3,by omega,by first | (congr 1;done) | (congr 1;omega),by go_num,a.o,by first | rfl | trivial⟩
         case measure=>simp[intOf];omega
       . skip;go_wp2;go_roundw
         case rel=>exact⟨5,S+c.toNat % 128*128 ^ 4,by omega,by first | (congr 1;done) | (congr 1;omega),by go_num,a.o,by first | rfl | trivial⟩
         case measure=>simp[intOf];omega
   . obtain rfl:i=k:=by omega
     have HE:=aa (HR.o.f (HK.o _ (by omega)));go_wp2;go_ret2;exact⟨by rw[d.o,HE.o];rfl,rfl⟩
structure rI (w:X)(g cap:Nat)(x:ab)(k:Nat)(wr:X):Prop where
 a:dV wr g g cap (jX k x)
 below:Below g w wr
theorem rI.j {w wr:X}{g cap k:Nat}{x:ab}(h:rI w g cap x k wr)(a:k<x.length)(hd:mg x[k]=true):rI w g cap x (k+1) (wr.setCell ⟨g,k,U⟩ (I .u8 95)):=by
 obtain⟨b,c⟩:=h.a.G k 95;have d:kF x[k]=95:=by unfold kF;rw[hd];rfl
 refine⟨by rw[Ju a,d];exact b,h.below.trans (c.below (fun i e=>by omega) (Nat.le_of_lt h.a.b))⟩
theorem rI.f {w wr:X}{g cap k:Nat}{x:ab}(h:rI w g cap x k wr)(a:k<x.length)(hd:mg x[k]=F):rI w g cap x (k+1) wr:=⟨by rw[Jv a hd];exact h.a,h.below⟩
theorem E1 (s:ae)(w:X)(hs:s.size<=1000000):
 Calls prog 384 #[V s] w fun e w'=>e=.returned (V ⟨(oB s.data.toList).toArray⟩)∧Below w.heap.size w w':=by
 have hl:=cH s;have H1:=aa (Ez s 47 w (by unfold maxLen;omega));have H2:=aa (Ez s 92 w (by unfold maxLen;omega));go_enter func384,ntmps384;go_upto_region 1 with fail
 go_cut [3] (fun v wd=>∃p:Nat,v=I J ((p:Int)-1)∧p<=s.size∧s.data.toList.drop p=mP s.data.toList∧wd=w)
 case first =>
  go_wp2_with fail;refine H1.o.mono ?_;rintro e w1 ⟨G,rfl,hr1,g⟩;subst g;go_wp2_with fail;refine H2.o.mono ?_;rintro e w2 ⟨H,rfl,hr2,g⟩;subst g;obtain⟨q1,q2,q3⟩:=QS hr1 hr2;rw[hl] at q2;have r:=aa q3;by_cases hlt:G<H
  . have e:max G H=H:=by omega
    rw[e] at r q1 q2;go_wp2;go_meet;exact⟨(H+1).toNat,by rw[show(((H+1).toNat:Nat):Int)-1=H by omega],by omega,r.o,rfl⟩
  . have e:max G H=G:=by omega
    rw[e] at r q1 q2;go_wp2;go_meet;exact⟨(G+1).toNat,by rw[show(((G+1).toNat:Nat):Int)-1=G by omega],by omega,r.o,rfl⟩
 case rest =>
 obtain⟨p,rfl,hps,q3,g⟩:=hcut;subst g;have alB:(p:Int)<=s.size:=by omega
 have hx:(s.extract p s.size).data.toList=mP s.data.toList:=by
  rw[<-q3,Lib.extract_to_end]
 have hxs:(s.extract p s.size).size=(mP s.data.toList).length:=tQ hx;have htl:(mP s.data.toList).length<=s.size:=by rw[<-q3,cO,hl];omega
 obtain⟨i,w3,vC,hB3,hBf⟩:=xf (P:=prog) wc (s.extract p s.size) 9 31 5 (by rw[hxs];unfold maxLen;omega) underlying9 underlying31 underlying5;rw[hx] at hBf;rw[hxs] at vC;have HSf:Hid (oB s.data.toList=ua ((rL ((mP s.data.toList).map kF)).take 40)):=rfl;have ah0:Hid (rI wc wc.heap.size i (mP s.data.toList) 0 w3):=⟨by rw[Jt];exact hBf,hB3⟩;obtain⟨C,hsf⟩:∃C,oB s.data.toList=C:=⟨_,rfl⟩;rw[hsf] at HSf;have L:=aa hsf;generalize mP s.data.toList=x at *;obtain⟨n,hn⟩:∃n,x.length=n:=⟨_,rfl⟩;have HN:=aa hn;rw[hn] at vC htl;have hn6:n<=1000000:=by omega
 go_wp2;go_loopw [19] (fun vi wr=>∃k:Nat,k<=n∧vi=I J k∧rI wc wc.heap.size i x k wr) (fun vi _=>n-(intOf vi).toNat)
 case atStart=>exact⟨0,ax _,rfl,ah0.o⟩
 case round =>
  obtain⟨k,hk,rfl,hR⟩:=hrel;have N:=aa hR;by_cases hlt:k<n
  . have t:k<x.length:=by rw[HN.o];exact hlt
    have hlt':(k:Int)<n:=by omega
    have hcap:n<=i:=by have:=N.o.a.e;rw[zI,HN.o] at this;exact this
    have ck:wr.cell? ⟨wc.heap.size,k,U⟩=some (I .u8 (x[k].toNat:Int)):=by
     have h1:k<(jX k x).length:=by rw[zI];exact t
     have:=N.o.a.d k _ (jM _ k h1);rw[J1 t] at this;exact this
    have fk:wr.frozen? ⟨wc.heap.size,k,U⟩=F:=(N.o.a.a k (by omega)).2;have V4:=N.o.j t;have HS2:=aa (N.o.f t);have HV:=aa (fun W=>vF (x[k].toNat:Int) W);have T:∀d:UInt8,((x[k].toNat:Int)==(d.toNat:Int))=decide (x[k]=d):=fun d=>by
     rw[iM,cR,bR];constructor
     . intro e;exact lN.1 (by omega)
     . intro e;rw[e]
    have t9:((x[k].toNat:Int)==9)=decide (x[k]=9):=T 9;have t34:((x[k].toNat:Int)==34)=decide (x[k]=34):=T 34;have t58:((x[k].toNat:Int)==58)=decide (x[k]=58):=T 58;have HD:Hid (mg x[k]=(decide (x[k]=9)||decide (x[k]=34)||decide (x[k]=58)||!er x[k].toNat)):=by unfold Hid mg;rfl
    generalize x[k]=c at *;by_cases h9:c=9
    . have y:mg c=true:=by rw[HD.o,br h9];rfl
      rw[br h9] at t9;have z:=aa (V4 y);go_wp2;go_roundw
      case rel=>exact⟨k+1,by omega,by go_num,z.o⟩
      case measure=>simp[intOf];omega
    . rw[ba h9] at t9;by_cases NK:c=34
      . have y:mg c=true:=by rw[HD.o,br NK];simp
        rw[br NK] at t34;have z:=aa (V4 y);go_wp2;go_roundw
        case rel=>exact⟨k+1,by omega,by go_num,z.o⟩
        case measure=>simp[intOf];omega
      . rw[ba NK] at t34;by_cases B:c=58
        . have y:mg c=true:=by rw[HD.o,br B];simp
          rw[br B] at t58;have z:=aa (V4 y);go_wp2;go_roundw
          case rel=>exact⟨k+1,by omega,by go_num,z.o⟩
          case measure=>simp[intOf];omega
        . rw[ba B] at t58;rw[ba h9,ba NK,ba B] at HD;cases hv:er (c.toNat:Int)
          . have y:mg c=true:=by rw[HD.o,hv];rfl
            rw[hv] at HV;have z:=aa (V4 y);go_wp2_with (go_at_call 90;refine(HV.o _).mono ?_;rintro e w4 ⟨rfl,g⟩;subst g)
            go_roundw
            case rel=>exact⟨k+1,by omega,by go_num,z.o⟩
            case measure=>simp[intOf];omega
          . have y:mg c=F:=by rw[HD.o,hv];rfl
            rw[hv] at HV;have z:=aa (HS2.o y);go_wp2_with (go_at_call 90;refine(HV.o _).mono ?_;rintro e w4 ⟨rfl,g⟩;subst g)
            go_roundw
            case rel=>exact⟨k+1,by omega,by go_num,z.o⟩
            case measure=>simp[intOf];omega
  . obtain rfl:k=n:=by omega
    have hIs:aB wr (some ⟨wc.heap.size,0,U⟩) i (x.map kF):=by
     have:=N.o.a.r;rw[<-HN.o,JG] at this;exact this
    have HU:=aa (Ns wr _ i k _ hIs (by rw[gD];exact HN.o));have afr:Hid (C=ua ((rL (x.map kF)).take 40)):=HSf.o;have S:=aa N.o.below;go_wp2_with fail;refine HU.o.mono ?_;rintro e w4 ⟨gL,a,f,rfl,hn',hI',g⟩;subst g;have afs:f=(rL (x.map kF)).length:=hn';have aft:aB w4 gL a (rL (x.map kF)):=hI';have b:=aa afs;have HI':=aa aft
    clear hn' hI' afs aft HU;generalize rL (x.map kF)=u at *;have XH:f<=a:=by rw[b.o];exact HI'.o.1
    have D:∀j,j=min f 40->0<j->(convert 31 9 (.slice gL j a)).run prog w4=.ok (V ⟨C.toArray⟩) w4:=fun j hj h0=>by
     have h1:=HI'.o.lH j (by rw[<-b.o];omega);have h2:=h1.H (P:=prog) 31 9 5 underlying31 underlying5 underlying9;have h3:(u.take j).length=j:=by rw[bU,<-b.o];omega
     rw[h3] at h2;have h4:C=u.take j:=by
      rw[afr.o,hj];have:u.take 40=u.take (min f 40):=by
       rcases Nat.le_total f 40 with e | e
       . rw[pN e,gF (by rw[<-b.o];exact e),gF (by rw[<-b.o];omega)]
       . rw[Nat.min_eq_right e]
      rw[this];unfold ua;rw[if_neg];intro e;rw[hj] at h3;rw[e] at h3;simp at h3;omega
     rw[h4];exact h2
    have l:=aa D;clear D;by_cases h0:f=0
    . subst h0;have HF:Hid (C=[102,105,108,101]):=by
       unfold Hid;have hu:u=[]:=ix b.o.symm;rw[afr.o,hu];rfl
      clear l;go_wp2;go_ret;exact⟨by rw[L.o,HF.o];rfl,S.o⟩
    . by_cases h40:f<=40
      . have hcv:=l.o f (by omega) (by omega);have t0:((f:Int)==0)=F:=by rw[aQ];omega
        have h4a:(f:Int)<=40:=by omega
        obtain⟨m,q⟩:∃m:ae,(⟨C.toArray⟩:ae)=m:=⟨_,rfl⟩;rw[q] at hcv;have HSb:=aa q;go_wp2;go_ret;exact⟨by rw[L.o,HSb.o];rfl,S.o⟩
      . have hcv:=l.o 40 (by omega) (by omega);have h4a:¬(f:Int)<=40:=by omega
        have h4b:(40:Int)<f:=by omega
        have h4c:(40:Int)<=a:=by omega
        obtain⟨m,q⟩:∃m:ae,(⟨C.toArray⟩:ae)=m:=⟨_,rfl⟩;rw[q] at hcv;go_wp2;go_ret;exact⟨by rw[L.o,q];rfl,S.o⟩
theorem Tj (s:ae)(k:Nat):(s.extract 0 k).data.toList=s.data.toList.take k:=by
 rw[Lib.extract_data];simp
theorem Ty (s:ae)(i:Nat)(h:i+2<s.size):(s.extract (i+1) (i+3)).data.toList=[s[i+1]'(by omega),s[i+2]'(by omega)]∧s.data.toList.drop i=s[i]'(by omega)::s[i+1]'(by omega)::s[i+2]'(by omega)::s.data.toList.drop (i+3):=by
 have b:=cH s;have d:∀k (a:k<s.size),s.data.toList.drop k=s[k]::s.data.toList.drop (k+1):=fun k a=>by
  rw[kt (by rw[b];exact a),vj s k a]
 refine⟨?_,by rw[d i (by omega),d (i+1) (by omega),d (i+2) (by omega)]⟩;rw[Lib.extract_data,show i+3-(i+1)=2 by omega,d (i+1) (by omega),d (i+2) (by omega)];rfl
def pg (o:Option (ab)):Value:=.tuple #[V ⟨(o.getD []).toArray⟩,.bool o.isSome]
structure E2 (w:X)(l:ab)(i:Nat)(ao:ag)(cap n:Nat)(wr:X):Prop where
 b:∃bs,bl wr w.heap.size 5 ao cap bs∧n=bs.length∧n<=i∧iP (l.drop 7)=jA bs (l.drop i)
 below:Below w.heap.size w wr
theorem E2.a {w wr b:X}{l bs:ab}{c:UInt8}{ao j:ag}{cap m n i:Nat}{o:Obj}(d:Below w.heap.size w wr)(p:bl wr w.heap.size 5 ao cap bs)(f:bl b w.heap.size 5 j m (bs++[c]))(g:(wr.alloc o).grownBy b (aw ao))(q:n=bs.length)(r:n+1<=i)(hd:iP (l.drop 7)=jA (bs++[c]) (l.drop i)):E2 w l i j m (n+1) b:=by
 refine⟨⟨bs++[c],f,by rw[aD,q];rfl,r,hd⟩,(d.alloc d.size o).grown g (by rw[bF];have:=d.size;omega) (fun k e=>?_)⟩;cases ao with
 | none=>simp[aw] at e
 | some a=>simp[aw] at e;have:=(p.a a rfl).1;omega
theorem N2 (s:ae)(w:X)(hs:s.size<=1000000):
 Calls prog 383 #[V s] w fun e w'=>e=.returned (pg (jW s.data.toList))∧Below w.heap.size w w':=by
 have u:=cH s;by_cases h7:s.size<7
 . have m:Hid (jW s.data.toList=U):=by unfold Hid jW;rw[if_pos (Or.inl (by rw[u];exact h7))]
   have t7:decide ((s.size:Int)<7)=true:=br (by omega);go_enter func383,ntmps383;go_wp2;go_ret2;exact⟨by rw[m.o];rfl,ar _ _⟩
 . have t7:decide ((s.size:Int)<7)=F:=ba (by omega);have h7':(7:Int)<=s.size:=by omega
   have hx:=Tj s 7;have N:(s.extract 0 7).size=7:=by rw[tQ hx,bU,u];omega
   have S:=rj (s.extract 0 7) w (by rw[N];unfold maxLen;omega);rw[hx] at S;by_cases H:be (s.data.toList.take 7)=DN
   . have m:Hid (jW s.data.toList=iP (s.data.toList.drop 7)):=by unfold Hid jW;rw[if_neg (fun e=>by rcases e with e | e;rw[u] at e;exact h7 e;exact e H)]
     have tu:((⟨(be (s.data.toList.take 7)).toArray⟩:ae).toList==[117,116,102,45,56,39,39])=true:=by
      rw[cR,Lib.toList_data];exact H
     generalize (⟨(be (s.data.toList.take 7)).toArray⟩:ae)=lo at *;go_enter func383,ntmps383;obtain⟨i0,T,hz0,hz1,p⟩:=info_parts gG;have Hi:=T;have lg:=aa hz0;have kZ:=aa hz1;have lq:=aa p
     go_wp2_with (go_at_call 305;refine S.mono ?_;rintro e w1 ⟨rfl,q⟩)
     go_loopw [4,5] (fun vb vi wr=>∃(i n:Nat) (ao:ag) (r:Nat),7<=i∧i<=s.size∧vi=I J i∧vb=.slice ao n r∧E2 w s.data.toList i ao r n wr) (fun _ vi _=>s.size-(intOf vi).toNat)
     case atStart=>exact⟨7,0,U,0,ak _,by omega,rfl,rfl,⟨⟨[],bl.y _ _ _,rfl,by omega,(JI _).symm⟩,q⟩⟩
     case round =>
      obtain⟨i,n,ao,r,hi7,his,rfl,rfl,hR⟩:=hrel;obtain⟨⟨bs,hO,hn,hni,hd⟩,hB⟩:=hR;have x:=aa hO;have y:=aa hn;have k:=aa hd;have t:=aa hB
      clear hO hn hd hB;by_cases z:i<s.size
      . have hlt':(i:Int)<s.size:=by omega
        have B:s.data.toList.drop i=s[i]::s.data.toList.drop (i+1):=by rw[kt (by rw[u];exact z),vj s i z]
        by_cases d:s[i]=37
        . have t37:((s[i].toNat:Int) != 37)=F:=by rw[d];rfl
          by_cases hsh:s.size-i<3
          . have tsh:decide ((s.size:Int)-i<3)=true:=br (by omega);have C:Hid (jW s.data.toList=U):=by
             unfold Hid;rw[m.o,k.o,B,d,JH (by rw[cO,u];omega)]
            go_wp2;go_ret2;exact⟨by rw[C.o];rfl,t.o⟩
          . have tsh:decide ((s.size:Int)-i<3)=F:=ba (by omega);obtain⟨D,G⟩:=Ty s i (by omega);have p:(s.extract (i+1) (i+3)).size=2:=tQ D;have f:=fun W=>Ie (s.extract (i+1) (i+3)) W (by rw[p];unfold maxLen;omega);rw[D,JJ] at f;rw[d] at G;rw[G] at k;have i1:(i:Int)+1<=(i:Int)+3:=by omega
            have i3:(i:Int)+3<=s.size:=by omega
            have e1:((i:Int)+1).toNat=i+1:=by omega
            have e3:((i:Int)+3).toNat=i+3:=by omega
            generalize s[i+1]=a at *;generalize s[i+2]=b at *;by_cases c:0<=aT a.toNat∧0<=aT b.toNat
            . obtain⟨hbt,hle⟩:=Kl c.1 c.2;rw[Kj c.1 c.2] at k;rw[if_pos c] at f;have hge:0<=16*aT a.toNat+aT b.toNat:=by omega
              generalize 16*aT (a.toNat:Int)+aT (b.toNat:Int)=v at *;generalize v.toNat.toUInt8=L at *;subst hbt;have hwr:IntKind.u8.wrap (L.toNat:Int)=L.toNat:=by
               rw[IntKind.wrap_u8];have:=L.toNat_lt;omega
              have hnc:n+1<=140737488355328:=by omega
              go_wp2_with (first
               | (go_at_call 385;refine(f _).mono ?_;rintro e w2 ⟨rfl,hw⟩;subst hw)
               | (at_builtin;refine oe rfl (.tmp 50) (.tmp 53) 31 rfl w.heap.size 5 i0 underlying31 Hi lg.o kZ.o lq.o (l:=bs) (l2:=[L]) rfl y.o.symm (x.o.r _) rfl rfl (aB.B _ _ _ _) (by omega) (by rw[bF];have:=t.o.size;omega) ?_;intro lS iy w3 g j;have sP:=aa g;have yE:=aa j;clear g j))
              go_roundw
              case rel=>exact⟨i+3,n+1,lS,iy,by omega,by omega,by go_num,rfl,E2.a t.o x.o sP.o yE.o y.o (by omega) k.o⟩
              case measure=>simp[intOf];omega
            . have C:Hid (jW s.data.toList=U):=by
               unfold Hid;rw[m.o,k.o,Kk c]
              rw[if_neg c] at f;go_wp2_with (go_at_call 385;refine(f _).mono ?_;rintro e w2 ⟨rfl,hw⟩;subst hw)
              go_ret2;exact⟨by rw[C.o];rfl,t.o⟩
        . have t37:((s[i].toNat:Int) != 37)=true:=by rw[di];intro e;exact d (lN.1 (by show _=37;omega))
          rw[B,J2 d] at k;go_wp2_with (at_builtin;refine oe rfl (.tmp 27) (.tmp 31) 31 rfl w.heap.size 5 i0 underlying31 Hi lg.o kZ.o lq.o (l:=bs) (l2:=[s[i]]) rfl y.o.symm (x.o.r _) rfl rfl (aB.B _ _ _ _) (by omega) (by rw[bF];have:=t.o.size;omega) ?_;intro lS iy w3 g j;have sP:=aa g;have yE:=aa j;clear g j)
          go_roundw
          case rel=>exact⟨i+1,n+1,lS,iy,by omega,by omega,by go_num,rfl,E2.a t.o x.o sP.o yE.o y.o (by omega) k.o⟩
          case measure=>simp[intOf];omega
      . obtain rfl:i=s.size:=by omega
        have hcv:=x.o.f.H (P:=prog) 31 9 5 underlying31 underlying5 underlying9;rw[<-y.o] at hcv;have C:Hid (jW s.data.toList=some bs):=by
         unfold Hid;rw[m.o,k.o,oO (by rw[u];exact ak _),J8]
        go_wp2;go_ret2;exact⟨by rw[C.o];rfl,t.o⟩
   . have m:Hid (jW s.data.toList=U):=by unfold Hid jW;rw[if_pos (Or.inr H)]
     have tu:((⟨(be (s.data.toList.take 7)).toArray⟩:ae).toList==[117,116,102,45,56,39,39])=F:=by
      rw[aQ,Lib.toList_data];exact H
     generalize (⟨(be (s.data.toList.take 7)).toArray⟩:ae)=lo at *;go_enter func383,ntmps383;go_wp2_with (go_at_call 305;refine S.mono ?_;rintro e w1 ⟨rfl,q⟩)
     go_ret2;exact⟨by rw[m.o];rfl,q⟩
