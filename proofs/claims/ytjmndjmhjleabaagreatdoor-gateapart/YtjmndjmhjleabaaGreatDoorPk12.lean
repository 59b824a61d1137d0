/- Small texts, one behind the other: JrC, LwPiec. -/
import Derived.Test.YtjmndjmhjleabaaGreatDoorAl
import Derived.Test.YtjmndjmhjleabaaGreatDoorAm
import Derived.Test.YtjmndjmhjleabaaGreatDoorPk9
import Derived.Test.YtjmndjmhjleabaaGreatDoorBase
import Derived.Test.YtjmndjmhjleabaaGreatDoorPk1
import Derived.Test.YtjmndjmhjleabaaGreatDoorProg
import Derived.Deep.DeepCutAuto
import Derived.Test.YtjmndjmhjleabaaGreatDoorPk10
set_option maxHeartbeats 2000000
set_option maxRecDepth 100000
open Go.Proofs.Tryz
namespace Go.Proofs.YtjmndjmhjleabaaGreatDoor
open Go.RowKit
structure Pc where
 ao:ak
 cap:Nat
 l:av
def Pc.v (p:Pc):Value:=.slice p.ao p.l.length p.cap
def ZW (ps:List Pc):List Value:=ps.map Pc.v
structure acK (w:World)(bo:ak)(p:Pc):Prop where
 is:iH w p.ao p.cap p.l
 blk:p.l≠[]->∀a,p.ao=some a->∃a0,bo=some a0∧a.block=a0.block
structure xY (w:World)(bo:ak)(l:av)(fr:Nat)(ao:ak)(cap:Nat)(ps:List Pc)(wr:World):Prop where
 own:gV wr w.heap.size 31 1 ao cap ps.length (ZW ps)
 all:∀p∈ps,acK w bo p
 flat:(ps.map Pc.l).flatten=l.take fr
 below:aj w wr
theorem EY (ps:List Pc):(ZW ps).length=ps.length:=by simp[ZW]
theorem XH (c:Int)(n fr:Nat)(h:fr<=n):0<=(IntKind.u64.wrap c).tmod ((n:Int)-fr+1)∧(IntKind.u64.wrap c).tmod ((n:Int)-fr+1)<=(n:Int)-fr:=by
 have h0:0<=IntKind.u64.wrap c:=by rw[IntKind.wrap_u64];omega
 have h1:=Int.tmod_nonneg ((n:Int)-fr+1) h0;have h2:=Int.tmod_lt_of_pos (IntKind.u64.wrap c) (b:=(n:Int)-fr+1) (by omega);exact⟨h1,by omega⟩
theorem ZX:(prog.info? 31).map (fun i=>(i.zero,i.size,i.bytes))=some (some (.slice none 0 0),1,24):=by kernel_rfl
theorem acL {w:World}{bo gW:ak}{gK:Nat}{l:av}(h:iH w bo gK l)(fr k:Nat)(h1:fr<=k)(h2:k<=l.length)(e:gK≠fr->gW=bo.map (·.add fr)):acK w bo ⟨gW,gK-fr,(l.drop fr).take (k-fr)⟩:=by
 refine⟨h.cut fr k h1 h2 e,fun hne a ha=>?_⟩;have hc:l.length<=gK:=h.1;have hlt:fr<k:=by
  rcases aU fr k with g | g
  . exact g
  . exact absurd (by rw[show k-fr=0 by omega,List.take_zero]) hne
 have ha':gW=some a:=ha;rw[e (by omega)] at ha';cases bo with
 | none=>simp at ha'
 | some a0=>refine⟨a0,rfl,?_⟩;simp at ha';rw[<-ha',add_block]
theorem xY.snoc {w:World}{bo:ak}{l:av}{fr k:Nat}{ao jy:ak}{cap cap2:Nat}{ps:List Pc}{p:Pc}{wr w':World}(h:xY w bo l fr ao cap ps wr)(hp:acK w bo p)(hpl:p.l=(l.drop fr).take (k-fr))(h1:fr<=k)(hO:gV w' w.heap.size 31 1 jy cap2 (ps.length+1) (ZW ps++[p.v]))(hB:aj w w'):xY w bo l k jy cap2 (ps++[p]) w':=by
 refine⟨?_,fun q hq=>?_,?_,hB⟩
 . rw[aW];have:ZW (ps++[p])=ZW ps++[p.v]:=by simp[ZW]
   rw[this];exact hO
 . rcases bB.1 hq with hq | hq
   . exact h.all q hq
   . rw[bC.1 hq];exact hp
 . rw[bG,dA,h.flat];show l.take fr++[p.l].flatten=_;rw[hpl];have:[(l.drop fr).take (k-fr)].flatten=(l.drop fr).take (k-fr):=by simp
   rw[this];have e:k=fr+(k-fr):=by omega
   conv=>rhs;rw[e,List.take_add]
theorem xY.push {w:World}{bo:ak}{gK:Nat}{l:av}{fr k:Nat}{ao jy:ak}{cap cap2:Nat}{ps:List Pc}{wr w':World}{ob:Obj}(h:xY w bo l fr ao cap ps wr)(hI:iH w bo gK l)(gW:ak)(m c:Nat)(hm:m=k-fr)(hc:c=gK-fr)(e:gK≠fr->gW=bo.map (·.add fr))(h1:fr<=k)(h2:k<=l.length)(hO:gV w' w.heap.size 31 1 jy cap2 (ps.length+1) (ZW ps++[.slice gW m c]))(hG:(wr.alloc ob).grownBy w' (gL ao)):∃p,xY w bo l k jy cap2 (ps++[p]) w':=by
 subst hm;subst hc;have hs:=h.below.size;refine⟨⟨gW,gK-fr,(l.drop fr).take (k-fr)⟩,h.snoc (acL hI fr k h1 h2 e) rfl h1 ?_ ?_⟩
 . have hx:(Value.slice gW (k-fr) (gK-fr))=Pc.v ⟨gW,gK-fr,(l.drop fr).take (k-fr)⟩:=by
    show _=Value.slice _ ((l.drop fr).take (k-fr)).length _;rw[bY,bV];congr 1;omega
   rw[<-hx];exact hO
 . exact(h.below.alloc hs _).grown hG (by simp;omega) (fun q e=>by
    cases ao with
    | none=>simp[gL] at e
    | some y=>simp only[gL,bU] at e;have:=(h.own.block y rfl).1;omega)
theorem EZ (w:World)(l:av)(bo co:ak)(gK n Pb nc:Nat)(cs:List Int)(hB:iH w bo gK l)(hn:l.length=n)(hl:n<=100000)(hC:jo w co Pb nc (cs.map fun c=>Value.int .i64 c))(hnc:cs.length=nc)(hc:nc<=1000):
 Calls prog 21 #[.slice bo n gK,.slice co nc Pb] w fun e w'=>∃(ps:List Pc) (ao:ak) (cap:Nat),e=.returned (.slice ao ps.length cap)∧xY w bo l l.length ao cap ps w'∧ps.length=nc+1:=by
 subst hn;subst hnc;have HB:=H9 hB;have HC:=H9 hC
 clear hB hC;obtain⟨i0,hi0,hz0,hz1,hz2⟩:=info_parts ZX;have Hi:=H9 hi0;have kH:=H9 hz0;have kE:=H9 hz1;have kI:=H9 hz2
 clear hi0 hz0 hz1 hz2;go_enter func21,ntmps21;go_wp2;go_loopw [5,6,7] (fun vo vf vi wr=>∃(i fr:Nat) (ps:List Pc) (ao:ak) (cap:Nat),i<=cs.length∧fr<=l.length∧vi=.int .i64 i∧vf=.int .i64 fr∧vo=.slice ao ps.length cap∧ps.length=i∧xY w bo l fr ao cap ps wr) (fun _ _ vi _=>cs.length-(intOf vi).toNat)
 case atStart=>exact⟨0,0,[],none,0,aA _,aA _,rfl,rfl,rfl,rfl,⟨gV.nil _ _ _ _,(fun p hp=>by cases hp),rfl,fJ _ _⟩⟩
 case round =>
  obtain⟨i,fr,ps,ao,cap,hi,hfr,rfl,rfl,rfl,hps,hP⟩:=hrel;have HP:=H9 hP;have Qu:=H9 hps;have hpl:ps.length<=1000:=by omega
  clear hP hps;by_cases hlt:i<cs.length
  . obtain⟨bb,oo,rfl,hcc⟩:=HC.o.lit (by rw[aF];omega);have hlt':(i:Int)<cs.length:=by omega
    have hcv:=HC.o.1;have ci:wr.cell? ⟨bb,oo+i,none⟩=some (.int .i64 cs[i]):=by
     have:=hcc i (.int .i64 cs[i]) (by rw[dB,dD hlt];rfl);exact(HP.o.below.cell (gq w _ this)).trans this
    clear hcc;generalize cs[i]=c at *;go_upto_region 6 with fail
    go_cut [8] from 9 to 37 (fun vk wd=>∃k:Nat,fr<=k∧k<=l.length∧vk=.int .i64 k∧wd=wr)
    case first =>
     go_wp2;go_meet;obtain⟨h1,h2⟩:=XH c l.length fr hfr;exact⟨fr+((IntKind.u64.wrap c).tmod ((l.length:Int)-fr+1)).toNat,by omega,by omega,by rw[GV (x:=(IntKind.u64.wrap c).tmod ((l.length:Int)-fr+1)) (by omega) (by omega),GV (by omega) (by omega)];congr 1;omega,rfl⟩
    case rest =>
     obtain⟨k,hk1,hk2,rfl,hw⟩:=hcut;subst hw;have hcap:=HB.o.1;have k1:(fr:Int)<=k:=by omega
     have k2:(k:Int)<=gK:=by omega
     clear ci;cases bo with
     | none =>
       obtain⟨hl0,hc0⟩:=HB.o.qM;have hl1:l.length=0:=by rw[hl0];rfl
       have hkf:k=fr:=by omega
       have hcf:gK=fr:=by omega
       clear hl0 hc0 hl1;subst hkf;subst hcf;go_wp2_with (at_builtin;refine gT rfl (.tmp 30) (.tmp 35) 63 rfl w.heap.size 31 i0 (.slice none 0 0) 1 24 underlying63 Hi.o kH.o kE.o kI.o rfl (by decide) rfl (HP.o.own.alloc _) rfl (jo.made _ _ 1 _ _) rfl (fun u hu=>by simp at hu;subst hu;rfl) (by omega) (by omega) (by have:=HP.o.below.size;simp;omega) ?_;intro jQ gX w3 hO3 hG3 _)
       obtain⟨p,hp⟩:=HP.o.push HB.o (k:=gK) _ _ _ (by omega) (by omega) (fun e=>absurd rfl e) (by omega) hk2 hO3 hG3;go_roundw
       case rel=>exact⟨i+1,gK,ps++[p],jQ,gX,by omega,hk2,by go_num,rfl,by rw[aW];rfl,by rw[aW,Qu.o];rfl,hp⟩
       case measure=>simp[intOf];omega
     | some a =>
       by_cases hcf:gK=fr
       . have hkf:k=fr:=by omega
         subst hkf;subst hcf;go_wp2_with (at_builtin;refine gT rfl (.tmp 30) (.tmp 35) 63 rfl w.heap.size 31 i0 (.slice none 0 0) 1 24 underlying63 Hi.o kH.o kE.o kI.o rfl (by decide) rfl (HP.o.own.alloc _) rfl (jo.made _ _ 1 _ _) rfl (fun u hu=>by simp at hu;subst hu;rfl) (by omega) (by omega) (by have:=HP.o.below.size;simp;omega) ?_;intro jQ gX w3 hO3 hG3 _)
         obtain⟨p,hp⟩:=HP.o.push HB.o (k:=gK) _ _ _ (by omega) (by omega) (fun e=>absurd rfl e) (by omega) hk2 hO3 hG3;go_roundw
         case rel=>exact⟨i+1,gK,ps++[p],jQ,gX,by omega,hk2,by go_num,rfl,by rw[aW];rfl,by rw[aW,Qu.o];rfl,hp⟩
         case measure=>simp[intOf];omega
       . go_wp2_with (at_builtin;refine gT rfl (.tmp 30) (.tmp 35) 63 rfl w.heap.size 31 i0 (.slice none 0 0) 1 24 underlying63 Hi.o kH.o kE.o kI.o rfl (by decide) rfl (HP.o.own.alloc _) rfl (jo.made _ _ 1 _ _) rfl (fun u hu=>by simp at hu;subst hu;rfl) (by omega) (by omega) (by have:=HP.o.below.size;simp;omega) ?_;intro jQ gX w3 hO3 hG3 _)
         obtain⟨p,hp⟩:=HP.o.push HB.o (k:=k) _ _ _ (by omega) (by omega) (fun _=>rfl) (by omega) hk2 hO3 hG3;go_roundw
         case rel=>exact⟨i+1,k,ps++[p],jQ,gX,by omega,hk2,by go_num,rfl,by rw[aW];rfl,by rw[aW,Qu.o];rfl,hp⟩
         case measure=>simp[intOf];omega
  . obtain rfl:i=cs.length:=by omega
    have hcap:=HB.o.1;have k1:(fr:Int)<=l.length:=by omega
    cases bo with
    | none =>
      obtain⟨hl0,hc0⟩:=HB.o.qM;have hl1:l.length=0:=by rw[hl0];rfl
      have hcf:gK=fr:=by omega
      have hlf:l.length=fr:=by omega
      clear hl0 hc0 hl1;subst hcf;go_wp2_with (at_builtin;refine gT rfl (.tmp 38) (.tmp 42) 63 rfl w.heap.size 31 i0 (.slice none 0 0) 1 24 underlying63 Hi.o kH.o kE.o kI.o rfl (by decide) rfl (HP.o.own.alloc _) rfl (jo.made _ _ 1 _ _) rfl (fun u hu=>by simp at hu;subst hu;rfl) (by omega) (by omega) (by have:=HP.o.below.size;simp;omega) ?_;intro jQ gX w3 hO3 hG3 _)
      obtain⟨p,hp⟩:=HP.o.push HB.o (k:=l.length) _ _ _ (by omega) (by omega) (fun e=>absurd rfl e) (by omega) (aM _) hO3 hG3;go_ret;exact⟨ps++[p],jQ,gX,by rw[aW];rfl,(by rw[hlf] at hp;exact hp),by rw[aW,Qu.o];rfl⟩
    | some a =>
      by_cases hcf:gK=fr
      . have hlf:l.length=fr:=by omega
        subst hcf;go_wp2_with (at_builtin;refine gT rfl (.tmp 38) (.tmp 42) 63 rfl w.heap.size 31 i0 (.slice none 0 0) 1 24 underlying63 Hi.o kH.o kE.o kI.o rfl (by decide) rfl (HP.o.own.alloc _) rfl (jo.made _ _ 1 _ _) rfl (fun u hu=>by simp at hu;subst hu;rfl) (by omega) (by omega) (by have:=HP.o.below.size;simp;omega) ?_;intro jQ gX w3 hO3 hG3 _)
        obtain⟨p,hp⟩:=HP.o.push HB.o (k:=l.length) _ _ _ (by omega) (by omega) (fun e=>absurd rfl e) (by omega) (aM _) hO3 hG3;go_ret;exact⟨ps++[p],jQ,gX,by rw[aW];rfl,(by rw[hlf] at hp;exact hp),by rw[aW,Qu.o];rfl⟩
      . go_wp2_with (at_builtin;refine gT rfl (.tmp 38) (.tmp 42) 63 rfl w.heap.size 31 i0 (.slice none 0 0) 1 24 underlying63 Hi.o kH.o kE.o kI.o rfl (by decide) rfl (HP.o.own.alloc _) rfl (jo.made _ _ 1 _ _) rfl (fun u hu=>by simp at hu;subst hu;rfl) (by omega) (by omega) (by have:=HP.o.below.size;simp;omega) ?_;intro jQ gX w3 hO3 hG3 _)
        obtain⟨p,hp⟩:=HP.o.push HB.o (k:=l.length) _ _ _ (by omega) (by omega) (fun _=>rfl) (by omega) (aM _) hO3 hG3;go_ret;exact⟨ps++[p],jQ,gX,by rw[aW];rfl,hp,by rw[aW,Qu.o];rfl⟩
end Go.Proofs.YtjmndjmhjleabaaGreatDoor