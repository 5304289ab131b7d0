/- Several texts in one: TameLeaver, TameWaiter, TameCount, TameTurn, TameAside, TameJoin, TameJoined, TameClose, TameGo, TameSet, TameShutW, TameRow, TameFuncs. -/
import Derived.Test.YtblcigmggdiccaaGreatDoorPart05
import Derived.Conc.JoinTrace
import Derived.Test.YtblcigmggdiccaaGreatDoorPart07
import Derived.Test.YtblcigmggdiccaaGreatDoorPart08
import Derived.Test.YtblcigmggdiccaaGreatDoorPart06
import Derived.Test.YtblcigmggdiccaaGreatDoorPart01
set_option linter.unusedSectionVars false
set_option linter.unusedSimpArgs false
set_option linter.unusedVariables false
set_option maxRecDepth 100000
namespace Go.Tame
open Go.Conc
section
inductive SPh|out|past|wake1|wake2|wake3|quit
section
variable (P:Program)(K:World->Prop)(st sm:Addr)
def Is:SPh->Nat->Nat->Goroutine->Prop
  | .out,n,d,g=>∃ m,n=m+260/\WayD P false K (fun _=>False) (STell P K st sm) m d g
  | .past,n,d,g=>∃ m,n=m+220/\WayD P false K (fun e=>e.mute=true) (SAdd P K st sm) m d g
  | .wake1,n,d,g=>∃ m,n=m+80/\WayD P false K (fun e=>e.mute=true) (SLoad P K st sm) m d g
  | .wake2,n,d,g=>∃ m,n=m+55/\WayD P false K (fun e=>e.mute=true) (SStore P K st sm) m d g
  | .wake3,n,d,g=>∃ m,n=m+26/\WayD P false K (fun e=>e.mute=true) (SRel P sm) m d g
  | .quit,n,d,g=>QuitsD P n d g
inductive SDoes (w:World) (d:Nat) (N M:Int):SPh->SPh->World->Array Event->Prop
  | quiet {ph:SPh} {x:Nat} {es:Array Event}:(∀ e ∈ es,e.mute=true)->SDoes w d N M ph ph (w.at x) es
  | tell:d=0->SDoes w d N M .out .past w #[⟨.mark (.releaseMerge st),false,true⟩]
  | add:d=1->Rest (IntKind.u64.wrap (N+18446744069414584320))->SDoes w d N M .past .quit (w.setCell st (.int .u64 (IntKind.u64.wrap (N+18446744069414584320)))) #[⟨.cell st,false,true⟩,⟨.cell st,true,true⟩]
  | last:d=1->IntKind.u64.wrap (N+18446744069414584320)=1->SDoes w d N M .past .wake1 (w.setCell st (.int .u64 1)) #[⟨.cell st,false,true⟩,⟨.cell st,true,true⟩]
  | load:d=1->SDoes w d N M .wake1 .wake2 w #[⟨.cell st,false,true⟩]
  | store:d=1->SDoes w d N M .wake2 .wake3 (w.setCell st (.int .u64 0)) #[⟨.cell st,true,true⟩]
  | rel:d=1->SDoes w d N M .wake3 .quit (w.setCell sm (.int .u32 (IntKind.u32.wrap (M+1)))) (semEvents sm)
end
section
variable {P:Program}{K:World->Prop}{st sm:Addr}
theorem WayD.cases {main:Bool}{E:Event->Prop}{Stop:Nat->Goroutine->Prop}{m d:Nat}{g:Goroutine}{w:World}(h:WayD P main K E Stop m d g)(hw:K w) :
    Stop d g∨∃ k g' x es,m=k+1/\g.status=.running/\stepG P main g w=.go g' (w.at x) es/\(∀ e ∈ es,E e)/\WayD P main K E Stop k (deafBehind d es) g':=by
  cases m with
  | zero=>exact .inl h
  | succ k=>
    rcases h with h|⟨hs,h⟩
    · exact .inl h
    · obtain ⟨g',x,es,h1,h2,h3⟩:=h w hw
      exact .inr ⟨k,g',x,es,rfl,hs,h1,h2,h3⟩
theorem Is.status {ph:SPh}{n d:Nat}{g:Goroutine}{w:World}(h:Is P K st sm ph n d g)(hw:K w):g.status=.running∨(g.status=.finished/\ph=.quit):=by
  cases ph with
  | out=>obtain ⟨m,_,h⟩:=h;exact .inl ((h.cases hw).elim (·.2.1) fun ⟨_,_,_,_,_,h,_⟩=>h)
  | past=>obtain ⟨m,_,h⟩:=h;exact .inl ((h.cases hw).elim (·.2.1) fun ⟨_,_,_,_,_,h,_⟩=>h)
  | wake1=>obtain ⟨m,_,h⟩:=h;exact .inl ((h.cases hw).elim (·.2.1) fun ⟨_,_,_,_,_,h,_⟩=>h)
  | wake2=>obtain ⟨m,_,h⟩:=h;exact .inl ((h.cases hw).elim (·.2.1) fun ⟨_,_,_,_,_,h,_⟩=>h)
  | wake3=>obtain ⟨m,_,h⟩:=h;exact .inl ((h.cases hw).elim (·.2.1) fun ⟨_,_,_,_,_,h,_⟩=>h)
  | quit=>exact (QuitsD.status h).imp id fun e=>⟨e,rfl⟩
theorem deaf_atomic (d:Nat)(a:Addr)(x:Bool):deafBehind d #[⟨.cell a,x,true⟩] = d:=rfl
theorem deaf_atomics (d:Nat)(a b:Addr)(x y:Bool):deafBehind d #[⟨.cell a,x,true⟩,⟨.cell b,y,true⟩] = d:=rfl
theorem deaf_sem (d:Nat)(a:Addr):deafBehind d (semEvents a)=d:=rfl
theorem deaf_tell (d:Nat)(a:Addr):deafBehind d #[⟨.mark (.releaseMerge a),false,true⟩] = d:=rfl
theorem Is.step {ph:SPh}{n d:Nat}{g:Goroutine}{w:World}{N M:Int}(h:Is P K st sm ph n d g)(hr:g.status=.running)(hw:K w)(hN:w.cell? st=some (.int .u64 N))(hM:w.cell? sm=some (.int .u32 M))(hz:w.frozen? st=false)(hz':w.frozen? sm=false)
    (hadd:ph=.past->IntKind.u64.wrap (N+18446744069414584320)=1∨Rest (IntKind.u64.wrap (N+18446744069414584320))) (hone:ph=.wake1->N=1) :
    ∃ g' w' es ph' n',stepG P false g w=.go g' w' es/\n'<n/\Is P K st sm ph' n' (deafBehind d es) g'/\SDoes st sm w d N M ph ph' w' es/\(ph=.wake3->ph'=.quit->mayWake P g=true):=by
  cases ph with
  | out=>
    obtain ⟨m,rfl,h⟩:=h
    rcases h.cases hw with ⟨h1,_,h⟩|⟨k,g',x,es,rfl,_,h1,h2,h3⟩
    · obtain ⟨g',h2,h3⟩:=h w
      exact ⟨g',w,_,.past,38+220,h2,by omega,⟨38,rfl,by rw [deaf_tell,h1];exact h3⟩,.tell h1,nofun⟩
    · exact ⟨g',_,es,.out,k+260,h1,by omega,⟨k,rfl,h3⟩,.quiet fun e he=>(h2 e he).elim,nofun⟩
  | past=>
    obtain ⟨m,rfl,h⟩:=h
    rcases h.cases hw with ⟨h1,_,h⟩|⟨k,g',x,es,rfl,_,h1,h2,h3⟩
    · obtain ⟨g',h2,h3,h4⟩:=h N w hN hz
      rcases hadd rfl with e|e
      · have h3:=h3 e
        rw [e] at h2
        exact ⟨g',_,_,.wake1,103+80,h2,by omega,⟨103,rfl,by rw [deaf_atomics,h1];exact h3⟩,.last h1 e,nofun⟩
      · exact ⟨g',_,_,.quit,94,h2,by omega,by rw [deaf_atomics,h1];exact h4 e,.add h1 e,nofun⟩
    · exact ⟨g',_,es,.past,k+220,h1,by omega,⟨k,rfl,h3⟩,.quiet h2,by nofun⟩
  | wake1=>
    obtain ⟨m,rfl,h⟩:=h
    rcases h.cases hw with ⟨h1,_,h⟩|⟨k,g',x,es,rfl,_,h1,h2,h3⟩
    · obtain ⟨g',h2,h3⟩:=h w (by rw [hN,hone rfl])
      exact ⟨g',w,_,.wake2,20+55,h2,by omega,⟨20,rfl,by rw [deaf_atomic,h1];exact h3⟩,.load h1,nofun⟩
    · exact ⟨g',_,es,.wake1,k+80,h1,by omega,⟨k,rfl,h3⟩,.quiet h2,by nofun⟩
  | wake2=>
    obtain ⟨m,rfl,h⟩:=h
    rcases h.cases hw with ⟨h1,_,h⟩|⟨k,g',x,es,rfl,_,h1,h2,h3⟩
    · obtain ⟨g',h2,h3⟩:=h _ w hN hz
      exact ⟨g',_,_,.wake3,27+26,h2,by omega,⟨27,rfl,by rw [deaf_atomic,h1];exact h3⟩,.store h1,nofun⟩
    · exact ⟨g',_,es,.wake2,k+55,h1,by omega,⟨k,rfl,h3⟩,.quiet h2,by nofun⟩
  | wake3=>
    obtain ⟨m,rfl,h⟩:=h
    rcases h.cases hw with ⟨h1,_,hm,h⟩|⟨k,g',x,es,rfl,_,h1,h2,h3⟩
    · obtain ⟨g',h2,h3⟩:=h M w hM hz'
      exact ⟨g',_,_,.quit,24,h2,by omega,by rw [deaf_sem,h1];exact h3,.rel h1,fun _ _=>hm⟩
    · exact ⟨g',_,es,.wake3,k+26,h1,by omega,⟨k,rfl,h3⟩,.quiet h2,by nofun⟩
  | quit=>
    cases n with
    | zero=>rw [show g.status=.finished from h.1] at hr;cases hr
    | succ k=>
      rcases h with ⟨hf,_⟩|⟨_,g',es,hm,hst,hQ⟩
      · rw [hf] at hr;cases hr
      · exact ⟨g',w.at w.drawn,es,.quit,k,hst w,by omega,hQ,.quiet hm,nofun⟩
end
end
section
inductive MPh|begin|load|cas (k:Int)|say|sem|asleep|last|acq|back
section
variable (P:Program)(K:World->Prop)(st sm:Addr)(b:Frame)(cs:List Frame)(Head:Goroutine->Prop)(own:Addr->Prop)
def Im (N:Int):MPh->Nat->Nat->Goroutine->Prop
  | .begin,n,d,g=>∃ m,n=m+200/\WayD P true K (E0 own) (fun d g=>d=1/\Head g) m d g
  | .load,n,d,g=>∃ m,n=m+180/\WayD P true K (fun e=>e.mute=true) (MLoad P K st sm b cs Head) m d g
  | .cas k,n,d,g=>CountOf k/\∃ m,n=(if k=N then m+120 else m+220)/\WayD P true K (fun e=>e.mute=true) (MCas P K st sm b cs Head k) m d g
  | .say,n,d,g=>∃ m,n=m+90/\WayD P true K (fun e=>e.mute=true) (MSay P K st sm b cs) m d g
  | .sem,n,d,g=>∃ m,n=m+60/\WayD P true K (fun e=>e.mute=true) (MSem P K st sm b cs) m d g
  | .asleep,n,d,g=>n=59/\∃ g₀,g={ g₀ with status:=.blocked }/\MSem P K st sm b cs d g₀
  | .last,n,d,g=>∃ m,n=m+40/\WayD P true K (fun e=>e.mute=true) (MLast P K st b cs) m d g
  | .acq,n,d,g=>∃ m,n=m+21/\WayD P true K (fun e=>e.mute=true) (MAcq P K st b cs) m d g
  | .back,n,d,g=>∃ m,n=m+1/\WayD P true K (fun e=>e.mute=true) (MBack P b cs) m d g
inductive MDoes (w:World) (d:Nat) (N M:Int):MPh->MPh->World->Array Event->Prop
  | quiet {ph:MPh} {x:Nat} {es:Array Event}:(∀ e ∈ es,E0 own e)->MDoes w d N M ph ph (w.at x) es
  | head {x:Nat} {es:Array Event}:(∀ e ∈ es,E0 own e)->MDoes w d N M .begin .load (w.at x) es
  | none {ph:MPh}:(ph=.begin∨ph=.load)->d=1->N=0->MDoes w d N M ph .acq w #[⟨.cell st,false,true⟩]
  | load {ph:MPh}:(ph=.begin∨ph=.load)->d=1->CountOf N->MDoes w d N M ph (.cas N) w #[⟨.cell st,false,true⟩]
  | hit:d=1->MDoes w d N M (.cas N) .say (w.setCell st (.int .u64 (N+1))) #[⟨.cell st,false,true⟩,⟨.cell st,true,true⟩]
  | miss {k:Int}:d=1->¬ N=k->MDoes w d N M (.cas k) .begin w #[⟨.cell st,false,true⟩]
  | say:d=1->MDoes w d N M .say .sem w #[⟨.mark (.write sm),false,true⟩]
  | sleep:d=1->M=0->MDoes w d N M .sem .asleep w #[]
  | take:d=1->M=1->MDoes w d N M .sem .last (w.setCell sm (.int .u32 0)) (semEvents sm)
  | last:d=1->N=0->MDoes w d N M .last .acq w #[⟨.cell st,false,true⟩]
  | hear:d=0->MDoes w d N M .acq .back w #[⟨.mark (.acquire st),false,true⟩]
end
section
variable {P:Program}{K:World->Prop}{st sm:Addr}{b:Frame}{cs:List Frame}{Head:Goroutine->Prop}{own:Addr->Prop}
theorem deaf_hear (d:Nat)(a:Addr):deafBehind d #[⟨.mark (.acquire a),false,true⟩] = d:=rfl
theorem deaf_say (d:Nat)(a:Addr):deafBehind d #[⟨.mark (.write a),false,true⟩] = d:=rfl
theorem Im.awake {N:Int}{n d:Nat}{g:Goroutine}(h:Im P K st sm b cs Head own N .asleep n d g)(w:World):g.again w={ g with status:=.running }/\Im P K st sm b cs Head own N .sem 60 d { g with status:=.running }:=by
  obtain ⟨_,g₀,rfl,h⟩:=h
  have e:({ ({ g₀ with status:=.blocked }:Goroutine) with status:=.running }:Goroutine)=g₀:=by
    have:=h.2.1
    cases g₀
    simp only at this
    subst this
    rfl
  refine ⟨?_,0,rfl,by rw [e];exact h⟩
  unfold Goroutine.again
  simp only [h.2.2.1]
theorem Im.step {ph:MPh}{n d:Nat}{g:Goroutine}{w:World}{N M:Int}(hL:MLoop P K st sm b cs Head)(h:Im P K st sm b cs Head own N ph n d g)(hr:g.status=.running)(hw:K w)(hN:w.cell? st=some (.int .u64 N))(hM:w.cell? sm=some (.int .u32 M))(hz:w.frozen? st=false)(hz':w.frozen? sm=false)
    (hload:ph=.begin∨ph=.load->N=0∨CountOf N) (hsem:ph=.sem->M=0∨M=1) (hlast:ph=.last->N=0) :
    (∃ g' w' es ph' n' N',stepG P true g w=.go g' w' es/\n'<n/\w'.cell? st=some (.int .u64 N')/\Im P K st sm b cs Head own N' ph' n' (deafBehind d es) g'/\MDoes st sm own w d N M ph ph' w' es)∨(ph=.back/\d=0/\stepG P true g w=.go (G (b.finish (.tuple #[])) cs) w #[]):=by
  have loads:∀ m,n ≥ m+180->WayD P true K (fun e=>e.mute=true) (MLoad P K st sm b cs Head) m d g->(ph=.begin∨ph=.load) ->
      ∃ g' w' es ph' n' N',stepG P true g w=.go g' w' es/\n'<n/\w'.cell? st=some (.int .u64 N')/\Im P K st sm b cs Head own N' ph' n' (deafBehind d es) g'/\MDoes st sm own w d N M ph ph' w' es:=by
    intro m hn h hp
    rcases h.cases hw with ⟨h1,_,h⟩|⟨k,g',x,es,rfl,_,h1,h2,h3⟩
    · obtain ⟨g',h2,h3,h4⟩:=h N w hN
      rcases hload hp with e|e
      · exact ⟨g',w,_,.acq,36+21,N,h2,by omega,hN,⟨36,rfl,by rw [deaf_atomic,h1];exact h3 e⟩,.none hp h1 e⟩
      · exact ⟨g',w,_,.cas N,48+120,N,h2,by omega,hN,⟨e,48,by rw [if_pos rfl],by rw [deaf_atomic,h1];exact h4 e⟩,.load hp h1 e⟩
    · refine ⟨g',_,es,.load,k+180,N,h1,by omega,hN,⟨k,rfl,h3⟩,?_⟩
      rcases hp with rfl|rfl
      · exact .head fun e he=>.inl (h2 e he)
      · exact .quiet fun e he=>.inl (h2 e he)
  cases ph with
  | begin=>
    obtain ⟨m,rfl,h⟩:=h
    left
    rcases h.cases hw with ⟨rfl,hh⟩|⟨k,g',x,es,rfl,_,h1,h2,h3⟩
    · exact loads 16 (by omega) (hL.head g hh) (.inl rfl)
    · exact ⟨g',_,es,.begin,k+200,N,h1,by omega,hN,⟨k,rfl,h3⟩,.quiet h2⟩
  | load=>
    obtain ⟨m,rfl,h⟩:=h
    exact .inl (loads m (by omega) h (.inr rfl))
  | cas k=>
    obtain ⟨hk,m,rfl,h⟩:=h
    left
    rcases h.cases hw with ⟨h1,_,h,h'⟩|⟨j,g',x,es,rfl,_,h1,h2,h3⟩
    · by_cases e:N=k
      · subst e
        obtain ⟨g',h2,h3⟩:=h w hN hz
        exact ⟨g',_,_,.say,20+90,N+1,h2,by rw [if_pos rfl];omega,World.cell?_setCell_same _ _ _ hN,⟨20,rfl,by rw [deaf_atomics,h1];exact h3⟩,.hit h1⟩
      · obtain ⟨g',h2,h3⟩:=h' N w hN hz e
        exact ⟨g',w,_,.begin,9+200,N,h2,by rw [if_neg fun z=>e z.symm];omega,hN,⟨9,rfl,by rw [deaf_atomic,h1];exact WayD.events (fun _ h=>.inl h) h3⟩,.miss h1 e⟩
    · exact ⟨g',_,es,.cas k,_,N,h1,by split <;> omega,hN,⟨hk,j,rfl,h3⟩,.quiet fun e he=>.inl (h2 e he)⟩
  | say=>
    obtain ⟨m,rfl,h⟩:=h
    left
    rcases h.cases hw with ⟨h1,_,h⟩|⟨k,g',x,es,rfl,_,h1,h2,h3⟩
    · obtain ⟨g',h2,h3⟩:=h w
      exact ⟨g',w,_,.sem,23+60,N,h2,by omega,hN,⟨23,rfl,by rw [deaf_say,h1];exact h3⟩,.say h1⟩
    · exact ⟨g',_,es,.say,k+90,N,h1,by omega,hN,⟨k,rfl,h3⟩,.quiet fun e he=>.inl (h2 e he)⟩
  | sem=>
    obtain ⟨m,rfl,h⟩:=h
    left
    rcases h.cases hw with ⟨h1,hs,ho,h,h'⟩|⟨k,g',x,es,rfl,_,h1,h2,h3⟩
    · rcases hsem rfl with rfl|rfl
      · exact ⟨_,w,_,.asleep,59,N,h w hM,by omega,hN,⟨rfl,g,rfl,h1,hs,ho,h,h'⟩,.sleep h1 rfl⟩
      · obtain ⟨g',h2,h3⟩:=h' w hM hz'
        refine ⟨g',_,_,.last,16+40,N,h2,by omega,?_,⟨16,rfl,by rw [deaf_sem,h1];exact h3⟩,.take h1 rfl⟩
        rw [World.cell?_setCell_other _ sm st _ (fun e=>by rw [← e,hM] at hN;cases hN)]
        exact hN
    · exact ⟨g',_,es,.sem,k+60,N,h1,by omega,hN,⟨k,rfl,h3⟩,.quiet fun e he=>.inl (h2 e he)⟩
  | asleep=>
    obtain ⟨_,g₀,rfl,_⟩:=h
    cases hr
  | last=>
    obtain ⟨m,rfl,h⟩:=h
    left
    rcases h.cases hw with ⟨h1,_,h⟩|⟨k,g',x,es,rfl,_,h1,h2,h3⟩
    · obtain ⟨g',h2,h3⟩:=h w (by rw [hN,hlast rfl])
      exact ⟨g',w,_,.acq,16+21,N,h2,by omega,hN,⟨16,rfl,by rw [deaf_atomic,h1];exact h3⟩,.last h1 (hlast rfl)⟩
    · exact ⟨g',_,es,.last,k+40,N,h1,by omega,hN,⟨k,rfl,h3⟩,.quiet fun e he=>.inl (h2 e he)⟩
  | acq=>
    obtain ⟨m,rfl,h⟩:=h
    left
    rcases h.cases hw with ⟨h1,_,h⟩|⟨k,g',x,es,rfl,_,h1,h2,h3⟩
    · obtain ⟨g',h2,h3⟩:=h w
      exact ⟨g',w,_,.back,19+1,N,h2,by omega,hN,⟨19,rfl,by rw [deaf_hear,h1];exact h3⟩,.hear h1⟩
    · exact ⟨g',_,es,.acq,k+21,N,h1,by omega,hN,⟨k,rfl,h3⟩,.quiet fun e he=>.inl (h2 e he)⟩
  | back=>
    obtain ⟨m,rfl,h⟩:=h
    rcases h.cases hw with ⟨h1,_,h⟩|⟨k,g',x,es,rfl,_,h1,h2,h3⟩
    · exact .inr ⟨rfl,h1,h w⟩
    · exact .inl ⟨g',_,es,.back,k+1,N,h1,by omega,hN,⟨k,rfl,h3⟩,.quiet fun e he=>.inl (h2 e he)⟩
end
end
section
open Go.ConcN (upd upd_ne upd_same)
def early:Option SPh->Bool
  | none|some .out|some .past=>true
  | _=>false
def waking:Option SPh->Bool
  | some .wake1|some .wake2|some .wake3=>true
  | _=>false
def cnt (js:List Nat) (ph:Nat->Option SPh):Nat:=js.countP fun j=>early (ph j)
theorem cnt_out {js:List Nat}{ph:Nat->Option SPh}{j:Nat}{x:Option SPh}(h:j ∉ js):cnt js (upd ph j x)=cnt js ph:=by
  unfold cnt
  refine List.countP_congr fun i hi=>?_
  have e:i≠j:=fun e=>h (by rw [← e];exact hi)
  rw [upd_ne ph x e]
theorem cnt_upd {ph:Nat->Option SPh}{j:Nat}{x:Option SPh}:∀ {js:List Nat},js.Nodup->j ∈ js->cnt js (upd ph j x)+(early (ph j)).toNat=cnt js ph+(early x).toNat
  | i :: js,hn,hj=>by
    have hn':=List.nodup_cons.1 hn
    by_cases e:i=j
    · subst e
      have:=cnt_out (ph:=ph) (x:=x) hn'.1
      unfold cnt at this ⊢
      simp only [List.countP_cons,upd_same,this]
      cases early (ph i) <;> cases early x <;> simp
    · have hj':j ∈ js:=by
        rcases List.mem_cons.1 hj with h|h
        · exact absurd h.symm e
        · exact h
      have:=cnt_upd (ph:=ph) (x:=x) hn'.2 hj'
      unfold cnt at this ⊢
      simp only [List.countP_cons,upd_ne ph x e]
      omega
theorem cnt_pos {js:List Nat}{ph:Nat->Option SPh}{j:Nat}(hj:j ∈ js)(h:early (ph j)=true):0<cnt js ph:=List.countP_pos_iff.2 ⟨j,hj,h⟩
inductive Mode (js:List Nat) (ph:Nat->Option SPh):MPh->Int->Int->Prop
  | calm {m:MPh} {N:Int}:(m=.begin∨m=.load∨∃ k,m=.cas k)->(∀ j ∈ js,waking (ph j)=false)->N=(cnt js ph:Int)*4294967296->Mode js ph m N 0
  | wait {m:MPh} {N:Int}:(m=.say∨m=.sem∨m=.asleep)->(∀ j ∈ js,waking (ph j)=false)->0<cnt js ph->N=(cnt js ph:Int)*4294967296+1->Mode js ph m N 0
  | wake {m:MPh} {j:Nat}:(m=.say∨m=.sem∨m=.asleep)->cnt js ph=0->j ∈ js->(ph j=some .wake1∨ph j=some .wake2)->(∀ i ∈ js,i≠j->waking (ph i)=false)->Mode js ph m 1 0
  | stored {m:MPh} {j:Nat}:(m=.say∨m=.sem∨m=.asleep)->cnt js ph=0->j ∈ js->ph j=some .wake3->(∀ i ∈ js,i≠j->waking (ph i)=false)->Mode js ph m 0 0
  | freed {m:MPh}:(m=.say∨m=.sem)->cnt js ph=0->(∀ j ∈ js,waking (ph j)=false)->Mode js ph m 0 1
  | done {m:MPh}:(m=.last∨m=.acq∨m=.back)->cnt js ph=0->(∀ j ∈ js,waking (ph j)=false)->Mode js ph m 0 0
section
variable {js:List Nat}{ph:Nat->Option SPh}{m:MPh}{N M:Int}{j:Nat}
theorem cnt_le (hl:js.length<=4):cnt js ph<=4:=Nat.le_trans List.countP_le_length hl
theorem Mode.add (H:Mode js ph m N M)(hl:js.length<=4)(hj:j ∈ js)(hp:ph j=some .past) :
    (IntKind.u64.wrap (N+18446744069414584320)=N - 4294967296)/\(IntKind.u64.wrap (N+18446744069414584320)=1∨Rest (IntKind.u64.wrap (N+18446744069414584320))):=by
  have h0:0<cnt js ph:=cnt_pos hj (by rw [hp];rfl)
  have h4:=cnt_le (ph:=ph) hl
  have hc:cnt js ph=1∨cnt js ph=2∨cnt js ph=3∨cnt js ph=4:=by omega
  cases H with
  | calm _ _ e=>
    subst e
    rcases hc with e|e|e|e <;> rw [e]
    · exact ⟨by decide,.inr (.inl (by decide))⟩
    · exact ⟨by decide,.inr (.inr (.inl (by decide)))⟩
    · exact ⟨by decide,.inr (.inr (.inr (.inl (by decide))))⟩
    · exact ⟨by decide,.inr (.inr (.inr (.inr (.inl (by decide)))))⟩
  | wait _ _ _ e=>
    subst e
    rcases hc with e|e|e|e <;> rw [e]
    · exact ⟨by decide,.inl (by decide)⟩
    · exact ⟨by decide,.inr (.inr (.inr (.inr (.inr (.inl (by decide))))))⟩
    · exact ⟨by decide,.inr (.inr (.inr (.inr (.inr (.inr (.inl (by decide)))))))⟩
    · exact ⟨by decide,.inr (.inr (.inr (.inr (.inr (.inr (.inr (by decide)))))))⟩
  | wake _ e=>omega
  | stored _ e=>omega
  | freed _ e=>omega
  | done _ e=>omega
theorem Mode.one (H:Mode js ph m N M)(hj:j ∈ js)(hp:ph j=some .wake1):N=1:=by
  have hw:waking (ph j)=true:=by rw [hp];rfl
  cases H with
  | calm _ h=>rw [h j hj] at hw;cases hw
  | wait _ h=>rw [h j hj] at hw;cases hw
  | wake=>rfl
  | @stored i _ _ _ hi h=>
    by_cases e:j=i
    · subst e;rw [hp] at hi;cases hi
    · rw [h j hj e] at hw;cases hw
  | freed _ _ h=>rw [h j hj] at hw;cases hw
  | done _ _ h=>rw [h j hj] at hw;cases hw
theorem Mode.loads (H:Mode js ph m N M)(hl:js.length<=4)(hm:m=.begin∨m=.load):N=0∨CountOf N:=by
  have h4:=cnt_le (ph:=ph) hl
  have no:∀ {p:Prop},(m=.say∨m=.sem∨m=.asleep)->p:=fun h=>by
    rcases hm with rfl|rfl <;> rcases h with h|h|h <;> cases h
  cases H with
  | calm _ _ e=>
    have hc:cnt js ph=0∨cnt js ph=1∨cnt js ph=2∨cnt js ph=3∨cnt js ph=4:=by omega
    subst e
    rcases hc with e|e|e|e|e <;> rw [e]
    · exact .inl (by decide)
    · exact .inr (.inl (by decide))
    · exact .inr (.inr (.inl (by decide)))
    · exact .inr (.inr (.inr (.inl (by decide))))
    · exact .inr (.inr (.inr (.inr (by decide))))
  | wait h=>exact no h
  | wake h=>exact no h
  | stored h=>exact no h
  | freed h=>exact .inl rfl
  | done=>exact .inl rfl
theorem Mode.sems (H:Mode js ph m N M)(_:m=.sem):M=0∨M=1:=by
  cases H <;> first|exact .inl rfl|exact .inr rfl
theorem Mode.lasts (H:Mode js ph m N M)(hm:m=.last):N=0:=by
  subst hm
  cases H with
  | calm h=>rcases h with h|h|⟨_,h⟩ <;> cases h
  | wait h=>rcases h with h|h|h <;> cases h
  | wake h=>rcases h with h|h|h <;> cases h
  | stored=>rfl
  | freed=>rfl
  | done=>rfl
theorem wk_upd {x:Option SPh}(h:∀ i ∈ js,waking (ph i)=false)(hx:waking x=false):∀ i ∈ js,waking (upd ph j x i)=false:=fun i hi=>by
  by_cases e:i=j
  · subst e;rw [upd_same];exact hx
  · rw [upd_ne ph x e];exact h i hi
theorem wk_ne {x:Option SPh}(h:∀ i ∈ js,i≠j->waking (ph i)=false):∀ i ∈ js,i≠j->waking (upd ph j x i)=false:=fun i hi e=>by rw [upd_ne ph x e];exact h i hi e
theorem Mode.early {x:Option SPh}(H:Mode js ph m N M)(hn:js.Nodup)(hj:j ∈ js)(h1:early (ph j)=true)(h2:early x=true):Mode js (upd ph j x) m N M:=by
  have hc:cnt js (upd ph j x)=cnt js ph:=by have:=cnt_upd (x:=x) hn hj (ph:=ph);rw [h1,h2] at this;simpa using this
  have h0:0<cnt js ph:=cnt_pos hj h1
  have hx:waking x=false:=by cases x with|none=>rfl|some p=>cases p <;> first|rfl|cases h2
  cases H with
  | calm a b c=>exact .calm a (wk_upd b hx) (by rw [hc];exact c)
  | wait a b c d=>exact .wait a (wk_upd b hx) (by rw [hc];exact c) (by rw [hc];exact d)
  | wake _ e=>omega
  | stored _ e=>omega
  | freed _ e=>omega
  | done _ e=>omega
theorem Mode.off (H:Mode js ph m N M)(hn:js.Nodup)(hl:js.length<=4)(hj:j ∈ js)(hp:ph j=some .past)(hr:Rest (IntKind.u64.wrap (N+18446744069414584320))):Mode js (upd ph j (some .quit)) m (IntKind.u64.wrap (N+18446744069414584320)) M:=by
  have h0:0<cnt js ph:=cnt_pos hj (by rw [hp];rfl)
  have hc:cnt js (upd ph j (some .quit))+1=cnt js ph:=by have:=cnt_upd (x:=some .quit) hn hj (ph:=ph);rw [hp] at this;simpa [Go.Tame.early] using this
  have hw:=(H.add hl hj hp).1
  rw [hw] at hr ⊢
  cases H with
  | calm a b c=>exact .calm a (wk_upd b rfl) (by omega)
  | wait a b c d=>
    refine .wait a (wk_upd b rfl) ?_ (by omega)
    rcases hr with e|e|e|e|e|e|e <;> omega
  | wake _ e=>omega
  | stored _ e=>omega
  | freed _ e=>omega
  | done _ e=>omega
theorem Mode.lastOff (H:Mode js ph m N M)(hn:js.Nodup)(hl:js.length<=4)(hj:j ∈ js)(hp:ph j=some .past)(hr:IntKind.u64.wrap (N+18446744069414584320)=1):Mode js (upd ph j (some .wake1)) m 1 M:=by
  have h0:0<cnt js ph:=cnt_pos hj (by rw [hp];rfl)
  have hc:cnt js (upd ph j (some .wake1))+1=cnt js ph:=by have:=cnt_upd (x:=some .wake1) hn hj (ph:=ph);rw [hp] at this;simpa [Go.Tame.early] using this
  have hw:=(H.add hl hj hp).1
  rw [hw] at hr
  cases H with
  | calm a b c=>omega
  | wait a b c d=>exact .wake (j:=j) a (by omega) hj (.inl (upd_same ..)) (wk_ne fun i hi _=>b i hi)
  | wake _ e=>omega
  | stored _ e=>omega
  | freed _ e=>omega
  | done _ e=>omega
theorem Mode.load (H:Mode js ph m N M)(hn:js.Nodup)(hj:j ∈ js)(hp:ph j=some .wake1):Mode js (upd ph j (some .wake2)) m N M:=by
  have hc:cnt js (upd ph j (some .wake2))=cnt js ph:=by have:=cnt_upd (x:=some .wake2) hn hj (ph:=ph);rw [hp] at this;simpa [Go.Tame.early] using this
  have hw:waking (ph j)=true:=by rw [hp];rfl
  cases H with
  | calm _ h=>rw [h j hj] at hw;cases hw
  | wait _ h=>rw [h j hj] at hw;cases hw
  | @wake i a b c d e=>
    have:j=i:=Classical.byContradiction fun z=>by rw [e j hj z] at hw;cases hw
    subst this
    exact .wake (j:=j) a (hc.trans b) hj (.inr (upd_same ..)) (wk_ne e)
  | @stored i a b c d e=>
    have:j=i:=Classical.byContradiction fun z=>by rw [e j hj z] at hw;cases hw
    subst this
    rw [hp] at d;cases d
  | freed _ _ h=>rw [h j hj] at hw;cases hw
  | done _ _ h=>rw [h j hj] at hw;cases hw
theorem Mode.store (H:Mode js ph m N M)(hn:js.Nodup)(hj:j ∈ js)(hp:ph j=some .wake2):Mode js (upd ph j (some .wake3)) m 0 M:=by
  have hc:cnt js (upd ph j (some .wake3))=cnt js ph:=by have:=cnt_upd (x:=some .wake3) hn hj (ph:=ph);rw [hp] at this;simpa [Go.Tame.early] using this
  have hw:waking (ph j)=true:=by rw [hp];rfl
  cases H with
  | calm _ h=>rw [h j hj] at hw;cases hw
  | wait _ h=>rw [h j hj] at hw;cases hw
  | @wake i a b c d e=>
    have:j=i:=Classical.byContradiction fun z=>by rw [e j hj z] at hw;cases hw
    subst this
    exact .stored (j:=j) a (hc.trans b) hj (upd_same ..) (wk_ne e)
  | @stored i a b c d e=>
    have:j=i:=Classical.byContradiction fun z=>by rw [e j hj z] at hw;cases hw
    subst this
    rw [hp] at d;cases d
  | freed _ _ h=>rw [h j hj] at hw;cases hw
  | done _ _ h=>rw [h j hj] at hw;cases hw
open Classical in
theorem Mode.rel (H:Mode js ph m N M)(hn:js.Nodup)(hj:j ∈ js)(hp:ph j=some .wake3):N=0/\M=0/\Mode js (upd ph j (some .quit)) (if m=.asleep then .sem else m) 0 1:=by
  have hc:cnt js (upd ph j (some .quit))=cnt js ph:=by have:=cnt_upd (x:=some .quit) hn hj (ph:=ph);rw [hp] at this;simpa [Go.Tame.early] using this
  have hw:waking (ph j)=true:=by rw [hp];rfl
  cases H with
  | calm _ h=>rw [h j hj] at hw;cases hw
  | wait _ h=>rw [h j hj] at hw;cases hw
  | @wake i a b c d e=>
    have:j=i:=Classical.byContradiction fun z=>by rw [e j hj z] at hw;cases hw
    subst this
    rw [hp] at d;rcases d with d|d <;> cases d
  | @stored i a b c d e=>
    have:j=i:=Classical.byContradiction fun z=>by rw [e j hj z] at hw;cases hw
    subst this
    refine ⟨rfl,rfl,.freed ?_ (hc.trans b) fun i hi=>?_⟩
    · rcases a with rfl|rfl|rfl
      · exact .inl (if_neg (by intro h;cases h))
      · exact .inr (if_neg (by intro h;cases h))
      · exact .inr (if_pos rfl)
    · by_cases z:i=j
      · subst z;rw [upd_same];rfl
      · rw [upd_ne ph _ z];exact e i hi z
  | freed _ _ h=>rw [h j hj] at hw;cases hw
  | done _ _ h=>rw [h j hj] at hw;cases hw
theorem Mode.stir (H:Mode js ph .asleep N M):Mode js ph .sem N M:=by
  cases H with
  | calm h=>rcases h with h|h|⟨_,h⟩ <;> cases h
  | wait _ b c d=>exact .wait (.inr (.inl rfl)) b c d
  | wake _ b c d e=>exact .wake (.inr (.inl rfl)) b c d e
  | stored _ b c d e=>exact .stored (.inr (.inl rfl)) b c d e
  | freed h=>rcases h with h|h <;> cases h
  | done h=>rcases h with h|h|h <;> cases h
end
end
section
open Go.ConcN (upd upd_ne upd_same)
section
variable {js:List Nat}{ph:Nat->Option SPh}{m m':MPh}{N M:Int}{j:Nat}{st sm:Addr}{w w':World}{d:Nat}{es:Array Event}{own:Addr->Prop}
theorem Mode.main (H:Mode js ph m N M)(hs:MDoes st sm own w d N M m m' w' es)(hk:∀ k,m=.cas k->CountOf k)(hN:w.cell? st=some (.int .u64 N))(hM:w.cell? sm=some (.int .u32 M))(hne:st≠sm) :
    ∃ N' M',w'.cell? st=some (.int .u64 N')/\w'.cell? sm=some (.int .u32 M')/\Mode js ph m' N' M':=by
  cases hs with
  | quiet=>exact ⟨N,M,hN,hM,H⟩
  | head=>
    refine ⟨N,M,hN,hM,?_⟩
    cases H with
    | calm _ b c=>exact .calm (.inr (.inl rfl)) b c
    | wait a=>rcases a with a|a|a <;> cases a
    | wake a=>rcases a with a|a|a <;> cases a
    | stored a=>rcases a with a|a|a <;> cases a
    | freed a=>rcases a with a|a <;> cases a
    | done a=>rcases a with a|a|a <;> cases a
  | none hp _ e=>
    refine ⟨N,M,hN,hM,?_⟩
    cases H with
    | calm _ b c=>subst e;exact .done (.inr (.inl rfl)) (by omega) b
    | wait a=>rcases hp with rfl|rfl <;> rcases a with a|a|a <;> cases a
    | wake a=>rcases hp with rfl|rfl <;> rcases a with a|a|a <;> cases a
    | stored a=>rcases hp with rfl|rfl <;> rcases a with a|a|a <;> cases a
    | freed a=>rcases hp with rfl|rfl <;> rcases a with a|a <;> cases a
    | done a=>rcases hp with rfl|rfl <;> rcases a with a|a|a <;> cases a
  | load hp _ e=>
    refine ⟨N,M,hN,hM,?_⟩
    cases H with
    | calm _ b c=>exact .calm (.inr (.inr ⟨N,rfl⟩)) b c
    | wait a=>rcases hp with rfl|rfl <;> rcases a with a|a|a <;> cases a
    | wake a=>rcases hp with rfl|rfl <;> rcases a with a|a|a <;> cases a
    | stored a=>rcases hp with rfl|rfl <;> rcases a with a|a|a <;> cases a
    | freed a=>rcases hp with rfl|rfl <;> rcases a with a|a <;> cases a
    | done a=>rcases hp with rfl|rfl <;> rcases a with a|a|a <;> cases a
  | hit=>
    refine ⟨N+1,M,World.cell?_setCell_same _ _ _ hN,by rw [World.cell?_setCell_other _ _ _ _ hne];exact hM,?_⟩
    have hc:=hk N rfl
    generalize hm:MPh.cas N=mm at H
    cases H with
    | calm _ b c=>exact .wait (.inl rfl) b (by rcases hc with e|e|e|e <;> omega) (by omega)
    | wait a=>subst hm;rcases a with a|a|a <;> cases a
    | wake a=>subst hm;rcases a with a|a|a <;> cases a
    | stored a=>subst hm;rcases a with a|a|a <;> cases a
    | freed a=>subst hm;rcases a with a|a <;> cases a
    | done a=>subst hm;rcases a with a|a|a <;> cases a
  | @miss k=>
    refine ⟨N,M,hN,hM,?_⟩
    cases H with
    | calm _ b c=>exact .calm (.inl rfl) b c
    | wait a=>rcases a with a|a|a <;> cases a
    | wake a=>rcases a with a|a|a <;> cases a
    | stored a=>rcases a with a|a|a <;> cases a
    | freed a=>rcases a with a|a <;> cases a
    | done a=>rcases a with a|a|a <;> cases a
  | say=>
    refine ⟨N,M,hN,hM,?_⟩
    cases H with
    | calm a=>rcases a with a|a|⟨_,a⟩ <;> cases a
    | wait _ b c d=>exact .wait (.inr (.inl rfl)) b c d
    | wake _ b c d e=>exact .wake (.inr (.inl rfl)) b c d e
    | stored _ b c d e=>exact .stored (.inr (.inl rfl)) b c d e
    | freed _ b c=>exact .freed (.inr rfl) b c
    | done a=>rcases a with a|a|a <;> cases a
  | sleep _ e=>
    refine ⟨N,M,hN,hM,?_⟩
    cases H with
    | calm a=>rcases a with a|a|⟨_,a⟩ <;> cases a
    | wait _ b c d=>exact .wait (.inr (.inr rfl)) b c d
    | wake _ b c d f=>exact .wake (.inr (.inr rfl)) b c d f
    | stored _ b c d f=>exact .stored (.inr (.inr rfl)) b c d f
    | freed=>cases e
    | done a=>rcases a with a|a|a <;> cases a
  | take _ e=>
    refine ⟨N,0,by rw [World.cell?_setCell_other _ _ _ _ (fun z=>hne z.symm)];exact hN,World.cell?_setCell_same _ _ _ hM,?_⟩
    cases H with
    | calm=>cases e
    | wait=>cases e
    | wake=>cases e
    | stored=>cases e
    | freed _ b c=>exact .done (.inl rfl) b c
    | done=>cases e
  | last=>
    refine ⟨N,M,hN,hM,?_⟩
    cases H with
    | calm a=>rcases a with a|a|⟨_,a⟩ <;> cases a
    | wait a=>rcases a with a|a|a <;> cases a
    | wake a=>rcases a with a|a|a <;> cases a
    | stored a=>rcases a with a|a|a <;> cases a
    | freed a=>rcases a with a|a <;> cases a
    | done _ b c=>exact .done (.inr (.inl rfl)) b c
  | hear=>
    refine ⟨N,M,hN,hM,?_⟩
    cases H with
    | calm a=>rcases a with a|a|⟨_,a⟩ <;> cases a
    | wait a=>rcases a with a|a|a <;> cases a
    | wake a=>rcases a with a|a|a <;> cases a
    | stored a=>rcases a with a|a|a <;> cases a
    | freed a=>rcases a with a|a <;> cases a
    | done _ b c=>exact .done (.inr (.inr rfl)) b c
theorem upd_id {α:Type}{f:Nat->α}{i:Nat}{x:α}(h:f i=x):upd f i x=f:=by
  funext k
  by_cases e:k=i
  · subst e;rw [upd_same,h]
  · rw [upd_ne f x e]
open Classical in
theorem Mode.shard {p p':SPh}(H:Mode js ph m N M)(hn:js.Nodup)(hl:js.length<=4)(hj:j ∈ js)(hp:ph j=some p)(hs:SDoes st sm w d N M p p' w' es)(hN:w.cell? st=some (.int .u64 N))(hM:w.cell? sm=some (.int .u32 M))(hne:st≠sm) :
    ∃ N' M',w'.cell? st=some (.int .u64 N')/\w'.cell? sm=some (.int .u32 M')/\((¬ (p=.wake3/\p'=.quit)/\Mode js (upd ph j (some p')) m N' M')∨(p=.wake3/\p'=.quit/\Mode js (upd ph j (some p')) (if m=.asleep then .sem else m) N' M')):=by
  cases hs with
  | quiet=>exact ⟨N,M,hN,hM,.inl ⟨(by rintro ⟨rfl,h⟩;cases h),by rw [upd_id hp];exact H⟩⟩
  | tell=>exact ⟨N,M,hN,hM,.inl ⟨(by rintro ⟨h,_⟩;cases h),H.early hn hj (by rw [hp];rfl) rfl⟩⟩
  | add _ e=>exact ⟨_,M,World.cell?_setCell_same _ _ _ hN,by rw [World.cell?_setCell_other _ _ _ _ hne];exact hM,.inl ⟨(by rintro ⟨h,_⟩;cases h),H.off hn hl hj hp e⟩⟩
  | last _ e=>exact ⟨1,M,World.cell?_setCell_same _ _ _ hN,by rw [World.cell?_setCell_other _ _ _ _ hne];exact hM,.inl ⟨(by rintro ⟨h,_⟩;cases h),H.lastOff hn hl hj hp e⟩⟩
  | load=>exact ⟨N,M,hN,hM,.inl ⟨(by rintro ⟨h,_⟩;cases h),H.load hn hj hp⟩⟩
  | store=>exact ⟨0,M,World.cell?_setCell_same _ _ _ hN,by rw [World.cell?_setCell_other _ _ _ _ hne];exact hM,.inl ⟨(by rintro ⟨h,_⟩;cases h),H.store hn hj hp⟩⟩
  | rel=>
    obtain ⟨rfl,rfl,h⟩:=H.rel hn hj hp
    exact ⟨0,1,by rw [World.cell?_setCell_other _ _ _ _ (fun z=>hne z.symm)];exact hN,World.cell?_setCell_same _ _ _ hM,.inr ⟨rfl,rfl,h⟩⟩
end
end
section
section
variable {Still Near:Nat->Loc->Prop}{Gone:Loc->Prop}{t:Trace}{h g:Nat}{st sm:Addr}{p:Nat}{fn:FuncId}{pos:String}{es:Array Event}{w w':World}{d:Nat}{N M:Int}
def Aside (A:Addr->Prop) (d:Nat) (es:Array Event):Prop:=
  ∀ (j:Nat) (e:Event),es[j]? = some e->(MemAct.ofEvent e).touch? = none∨((∃ ad wr,e=⟨.cell ad,wr,true⟩/\A ad)/\0<deafBehind d (es.extract 0 j))
theorem Aside.ops {A:Addr->Prop}(hes:Aside A (Deaf t g) es):∀ (i:Nat) (op:MemOp),(t++MemOp.ofEvents g fn pos es)[i]? = some op->t.size<=i->∀ x,op.act.touch? = some x->(∃ ad,A ad/\x.loc=.cell ad)/\x.kind=.atomic/\¬ (t++MemOp.ofEvents g fn pos es).heard i:=by
  intro i op ho hi x hxt
  have hj:(MemOp.ofEvents g fn pos es)[i - t.size]? = some op:=by
    rw [Array.getElem?_append] at ho
    simpa [Nat.not_lt.2 hi] using ho
  rw [ofEvents_eq,Array.getElem?_map] at hj
  obtain ⟨e,he,rfl⟩:=Option.map_eq_some_iff.1 hj
  have hjs:i - t.size<=es.size:=by
    rcases Nat.lt_or_ge (i - t.size) es.size with h'|h'
    · omega
    · rw [Array.getElem?_eq_none h'] at he;cases he
  rcases hes _ e he with h0|⟨⟨ad,wr,rfl,hA⟩,hd⟩
  · simp only at hxt;rw [h0] at hxt;cases hxt
  · have hxe:x=⟨.cell ad,wr,.atomic⟩:=by
      cases wr <;> simp [MemAct.ofEvent,MemAct.touch?] at hxt <;> exact hxt.symm
    subst hxe
    refine ⟨⟨ad,hA,rfl⟩,rfl,fun ⟨g',hg',hdf⟩=>?_⟩
    have hg1:g'=g:=by simp [Trace.g?,ho] at hg';exact hg'.symm
    subst hg1
    have:=deaf_inside t g' fn pos es (i - t.size) hjs
    rw [show t.size+(i - t.size)=i by omega,hdf] at this
    omega
theorem mem_at {u:Trace}{op:MemOp}(h:op ∈ u):∃ i,(t++u)[i]? = some op/\t.size<=i:=by
  obtain ⟨k,hk,rfl⟩:=Array.mem_iff_getElem.1 h
  exact ⟨t.size+k,by rw [at_new];exact Array.getElem?_eq_getElem hk,by omega⟩
theorem Aside.tr {A:Addr->Prop}(hes:Aside A (Deaf t g) es)(H:Tr Still Near Gone (Knows t h) t)(hA:∀ a,A a->Gone (.cell a)/\Near g (.cell a))(hG:∀ g l,Gone l->¬ Still g l):Tr Still Near Gone (Knows (t++MemOp.ofEvents g fn pos es) h) (t++MemOp.ofEvents g fn pos es):=by
  refine H.aside (g:=g) (fun op hop=>by obtain ⟨e,_,rfl⟩:=Go.Conc.mem_ofEvents hop;rfl) (fun op hop b hb=>?_) (fun i op ho hi ht hh=>?_) hG
  · obtain ⟨i,hi,hge⟩:=mem_at (t:=t) hop
    obtain ⟨⟨ad,ha,hl⟩,hk,_⟩:=hes.ops i op hi hge b hb
    rw [hl]
    exact ⟨(hA ad ha).1,hk,(hA ad ha).2⟩
  · cases e:op.act.touch? with
    | none=>exact ht e
    | some b=>exact (hes.ops i op ho hi b e).2.2 hh
theorem Aside.told {A:Addr->Prop}{a:Addr}{j:Nat}(hes:Aside A (Deaf t g) es)(H:Told Gone a t j p)(hA:∀ a,A a->Gone (.cell a))(hn:∀ e ∈ es,e.loc≠.mark (.release a)):Told Gone a (t++MemOp.ofEvents g fn pos es) j p:=by
  refine H.app (fun i op ho hi _ x hx=>?_) fun op hop e=>?_
  · obtain ⟨⟨ad,ha,hl⟩,hk,hh⟩:=hes.ops i op ho hi x hx
    rw [hl]
    exact ⟨hA ad ha,hk,hh⟩
  · obtain ⟨ev,hev,rfl⟩:=Go.Conc.mem_ofEvents hop
    refine hn ev hev ?_
    obtain ⟨loc,wr,sy⟩:=ev
    cases loc with
    | mark m=>simp only [MemAct.ofEvent,MemAct.mark.injEq] at e;rw [e]
    | _=>cases wr <;> cases sy <;> simp [MemAct.ofEvent] at e
theorem SDoes.aside {ph ph':SPh}(H:SDoes st sm w d N M ph ph' w' es):Aside (fun a=>a=st∨a=sm) d es:=by
  intro j e he
  cases H with
  | quiet hm=>exact .inl (touch_mute (hm e (Array.mem_of_getElem? he)))
  | tell=>
    match j,he with
    | 0,he=>obtain rfl:=Option.some.inj he;exact .inl rfl
  | add h1 _=>
    subst h1
    match j,he with
    | 0,he=>obtain rfl:=Option.some.inj he;exact .inr ⟨⟨st,false,rfl,.inl rfl⟩,Nat.zero_lt_one⟩
    | 1,he=>obtain rfl:=Option.some.inj he;exact .inr ⟨⟨st,true,rfl,.inl rfl⟩,Nat.zero_lt_one⟩
  | last h1 _=>
    subst h1
    match j,he with
    | 0,he=>obtain rfl:=Option.some.inj he;exact .inr ⟨⟨st,false,rfl,.inl rfl⟩,Nat.zero_lt_one⟩
    | 1,he=>obtain rfl:=Option.some.inj he;exact .inr ⟨⟨st,true,rfl,.inl rfl⟩,Nat.zero_lt_one⟩
  | load h1=>
    subst h1
    match j,he with
    | 0,he=>obtain rfl:=Option.some.inj he;exact .inr ⟨⟨st,false,rfl,.inl rfl⟩,Nat.zero_lt_one⟩
  | store h1=>
    subst h1
    match j,he with
    | 0,he=>obtain rfl:=Option.some.inj he;exact .inr ⟨⟨st,true,rfl,.inl rfl⟩,Nat.zero_lt_one⟩
  | rel h1=>
    subst h1
    match j,he with
    | 0,he=>obtain rfl:=Option.some.inj he;exact .inl rfl
    | 1,he=>obtain rfl:=Option.some.inj he;exact .inr ⟨⟨sm,false,rfl,.inr rfl⟩,Nat.zero_lt_succ 1⟩
    | 2,he=>obtain rfl:=Option.some.inj he;exact .inr ⟨⟨sm,true,rfl,.inr rfl⟩,Nat.zero_lt_succ 1⟩
    | 3,he=>obtain rfl:=Option.some.inj he;exact .inl rfl
theorem SDoes.norel {ph ph':SPh}{a:Addr}(H:SDoes st sm w d N M ph ph' w' es):∀ e ∈ es,e.loc≠.mark (.release a):=by
  intro e he
  cases H with
  | quiet hm=>
    intro z
    have:=hm e he
    obtain ⟨loc,wr,sy⟩:=e
    simp only at z
    subst z
    cases this
  | rel=>simp only [semEvents,List.mem_toArray,List.mem_cons,List.not_mem_nil,or_false] at he;rcases he with rfl|rfl|rfl|rfl <;> nofun
  | tell=>simp only [List.mem_toArray,List.mem_cons,List.not_mem_nil,or_false] at he;subst he;nofun
  | load=>simp only [List.mem_toArray,List.mem_cons,List.not_mem_nil,or_false] at he;subst he;nofun
  | store=>simp only [List.mem_toArray,List.mem_cons,List.not_mem_nil,or_false] at he;subst he;nofun
  | add=>simp only [List.mem_toArray,List.mem_cons,List.not_mem_nil,or_false] at he;rcases he with rfl|rfl <;> nofun
  | last=>simp only [List.mem_toArray,List.mem_cons,List.not_mem_nil,or_false] at he;rcases he with rfl|rfl <;> nofun
end
end
section
open Go.ConcN (sumTo upd sumTo_upd upd_ne upd_same)
def past:Option SPh->Bool
  | none|some .out=>false
  | _=>true
section
variable {P:Program}{K:World->Prop}{st sm:Addr}{b:Frame}{cs:List Frame}{Head:Goroutine->Prop}{own:Addr->Prop}
theorem Im.status {N:Int}{ph:MPh}{n d:Nat}{g:Goroutine}{w:World}(hL:MLoop P K st sm b cs Head)(h:Im P K st sm b cs Head own N ph n d g)(hw:K w):(g.status=.running/\ph≠.asleep)∨(g.status=.blocked/\g.offers=none/\ph=.asleep):=by
  cases ph with
  | begin=>
    obtain ⟨m,_,h⟩:=h
    refine .inl ⟨?_,nofun⟩
    rcases h.cases hw with ⟨_,h⟩|⟨_,_,_,_,_,h,_⟩
    · exact ((hL.head g h).cases hw).elim (·.2.1) fun ⟨_,_,_,_,_,h,_⟩=>h
    · exact h
  | load=>obtain ⟨m,_,h⟩:=h;exact .inl ⟨(h.cases hw).elim (·.2.1) fun ⟨_,_,_,_,_,h,_⟩=>h,nofun⟩
  | cas k=>obtain ⟨_,m,_,h⟩:=h;exact .inl ⟨(h.cases hw).elim (·.2.1) fun ⟨_,_,_,_,_,h,_⟩=>h,nofun⟩
  | say=>obtain ⟨m,_,h⟩:=h;exact .inl ⟨(h.cases hw).elim (·.2.1) fun ⟨_,_,_,_,_,h,_⟩=>h,nofun⟩
  | sem=>obtain ⟨m,_,h⟩:=h;exact .inl ⟨(h.cases hw).elim (·.2.1) fun ⟨_,_,_,_,_,h,_⟩=>h,nofun⟩
  | asleep=>obtain ⟨_,g₀,rfl,h⟩:=h;exact .inr ⟨rfl,h.2.2.1,rfl⟩
  | last=>obtain ⟨m,_,h⟩:=h;exact .inl ⟨(h.cases hw).elim (·.2.1) fun ⟨_,_,_,_,_,h,_⟩=>h,nofun⟩
  | acq=>obtain ⟨m,_,h⟩:=h;exact .inl ⟨(h.cases hw).elim (·.2.1) fun ⟨_,_,_,_,_,h,_⟩=>h,nofun⟩
  | back=>obtain ⟨m,_,h⟩:=h;exact .inl ⟨(h.cases hw).elim (·.2.1) fun ⟨_,_,_,_,_,h,_⟩=>h,nofun⟩
theorem Im.recount {N N':Int}{ph:MPh}{n d:Nat}{g:Goroutine}(h:Im P K st sm b cs Head own N ph n d g):∃ n',Im P K st sm b cs Head own N' ph n' d g:=by
  cases ph with
  | cas k=>obtain ⟨hk,m,_,h⟩:=h;exact ⟨_,hk,m,rfl,h⟩
  | _=>exact ⟨n,h⟩
theorem Im.cas {N:Int}{ph:MPh}{n d:Nat}{g:Goroutine}(h:Im P K st sm b cs Head own N ph n d g):∀ k,ph=.cas k->CountOf k:=fun k e=>by subst e;exact h.1
end
theorem offersAt_none {g:Goroutine}(h:g.offers=none)(c:Nat)(x:Bool):offersAt g c x = []:=by
  unfold offersAt
  rw [h]
  split
  · rename_i hh;cases hh
  · rfl
def Two (st sm:Addr) (w w':World):Prop:=(∃ d,w'=w.at d)∨∃ a x,(a=st∨a=sm)/\(w.cell? a).isSome=true/\w'=w.setCell a x
section
variable {st sm:Addr}{w w':World}{d:Nat}{N M:Int}{own:Addr->Prop}
theorem SDoes.two {p p':SPh}{es:Array Event}(h:SDoes st sm w d N M p p' w' es)(hN:(w.cell? st).isSome=true)(hM:(w.cell? sm).isSome=true):Two st sm w w':=by
  cases h with
  | quiet=>exact .inl ⟨_,rfl⟩
  | tell=>exact .inl ⟨w.drawn,rfl⟩
  | add=>exact .inr ⟨_,_,.inl rfl,hN,rfl⟩
  | last=>exact .inr ⟨_,_,.inl rfl,hN,rfl⟩
  | load=>exact .inl ⟨w.drawn,rfl⟩
  | store=>exact .inr ⟨_,_,.inl rfl,hN,rfl⟩
  | rel=>exact .inr ⟨_,_,.inr rfl,hM,rfl⟩
theorem MDoes.two {p p':MPh}{es:Array Event}(h:MDoes st sm own w d N M p p' w' es)(hN:(w.cell? st).isSome=true)(hM:(w.cell? sm).isSome=true):Two st sm w w':=by
  cases h with
  | quiet=>exact .inl ⟨_,rfl⟩
  | head=>exact .inl ⟨_,rfl⟩
  | none=>exact .inl ⟨w.drawn,rfl⟩
  | load=>exact .inl ⟨w.drawn,rfl⟩
  | hit=>exact .inr ⟨_,_,.inl rfl,hN,rfl⟩
  | miss=>exact .inl ⟨w.drawn,rfl⟩
  | say=>exact .inl ⟨w.drawn,rfl⟩
  | sleep=>exact .inl ⟨w.drawn,rfl⟩
  | take=>exact .inr ⟨_,_,.inr rfl,hM,rfl⟩
  | last=>exact .inl ⟨w.drawn,rfl⟩
  | hear=>exact .inl ⟨w.drawn,rfl⟩
theorem MDoes.good {p p':MPh}{es:Array Event}{S:Prot}{a:Addr}(h:MDoes st sm own w d N M p p' w' es)(hs:S.gone st)(hs':S.gone sm):(∀ e ∈ es,E0 own e)∨∀ e ∈ es,(∀ x,(MemAct.ofEvent e).touch? = some x->goneOf S x.loc/\x.kind≠.plain)/\e.loc≠.mark (.release a):=by
  have atom:∀ (c:Addr) (wr:Bool),(c=st∨c=sm)->(∀ x,(MemAct.ofEvent ⟨.cell c,wr,true⟩).touch? = some x->goneOf S x.loc/\x.kind≠.plain)/\(⟨.cell c,wr,true⟩:Event).loc≠.mark (.release a):=fun c wr hc=>by
    refine ⟨fun x hx=>?_,nofun⟩
    cases wr <;> simp [MemAct.ofEvent,MemAct.touch?] at hx <;> subst hx <;> exact ⟨⟨c,rfl,by rcases hc with rfl|rfl <;> assumption⟩,nofun⟩
  have mute:∀ e:Event,e.mute=true->(∀ x,(MemAct.ofEvent e).touch? = some x->goneOf S x.loc/\x.kind≠.plain)/\e.loc≠.mark (.release a):=fun e he=>by
    refine ⟨fun x hx=>(by rw [touch_mute he] at hx;cases hx),fun z=>?_⟩
    obtain ⟨loc,wr,sy⟩:=e
    simp only at z
    subst z
    cases he
  cases h with
  | quiet hm=>exact .inl hm
  | head hm=>exact .inl hm
  | none=>refine .inr fun e he=>?_;simp only [List.mem_toArray,List.mem_cons,List.not_mem_nil,or_false] at he;subst he;exact atom _ _ (.inl rfl)
  | load=>refine .inr fun e he=>?_;simp only [List.mem_toArray,List.mem_cons,List.not_mem_nil,or_false] at he;subst he;exact atom _ _ (.inl rfl)
  | hit=>refine .inr fun e he=>?_;simp only [List.mem_toArray,List.mem_cons,List.not_mem_nil,or_false] at he;rcases he with rfl|rfl <;> exact atom _ _ (.inl rfl)
  | miss=>refine .inr fun e he=>?_;simp only [List.mem_toArray,List.mem_cons,List.not_mem_nil,or_false] at he;subst he;exact atom _ _ (.inl rfl)
  | say=>
    refine .inr fun e he=>?_
    simp only [List.mem_toArray,List.mem_cons,List.not_mem_nil,or_false] at he
    subst he
    refine ⟨fun x hx=>?_,nofun⟩
    simp [MemAct.ofEvent,MemAct.touch?] at hx
    subst hx
    exact ⟨⟨sm,rfl,hs'⟩,nofun⟩
  | sleep=>exact .inr fun e he=>by simp at he
  | take=>
    refine .inr fun e he=>?_
    simp only [semEvents,List.mem_toArray,List.mem_cons,List.not_mem_nil,or_false] at he
    rcases he with rfl|rfl|rfl|rfl
    · exact mute _ rfl
    · exact atom _ _ (.inr rfl)
    · exact atom _ _ (.inr rfl)
    · exact mute _ rfl
  | last=>refine .inr fun e he=>?_;simp only [List.mem_toArray,List.mem_cons,List.not_mem_nil,or_false] at he;subst he;exact atom _ _ (.inl rfl)
  | hear=>
    refine .inr fun e he=>?_
    simp only [List.mem_toArray,List.mem_cons,List.not_mem_nil,or_false] at he
    subst he
    exact ⟨fun x hx=>by simp [MemAct.ofEvent,MemAct.touch?] at hx,nofun⟩
theorem setCell_chan {a:Addr}{x:Value}{i cap s r:Nat}{buf:Array Value}{cl tm:Bool}(h:w.heap[i]? = some (.chan cap buf cl s r tm)):(w.setCell a x).heap[i]? = some (.chan cap buf cl s r tm):=by
  unfold World.setCell
  simp only [Array.getElem?_modify]
  by_cases e:a.block=i
  · simp only [e,if_true,h,Option.map_some]
  · simp only [e,if_false,h]
theorem Two.chan (h:Two st sm w w'){i cap s r:Nat}{buf:Array Value}{cl tm:Bool}(hi:w.heap[i]? = some (.chan cap buf cl s r tm)):w'.heap[i]? = some (.chan cap buf cl s r tm):=by
  rcases h with ⟨d,rfl⟩|⟨a,x,_,_,rfl⟩
  · exact hi
  · exact setCell_chan hi
theorem Two.cell (h:Two st sm w w'){a:Addr}(h1:a≠st)(h2:a≠sm):w'.cell? a=w.cell? a:=by
  rcases h with ⟨d,rfl⟩|⟨c,x,hc,_,rfl⟩
  · rfl
  · exact World.cell?_setCell_other _ _ _ _ (fun e=>hc.elim (fun z=>h1 (e.symm.trans z)) fun z=>h2 (e.symm.trans z))
theorem Two.frozen (h:Two st sm w w')(a:Addr):w'.frozen? a=w.frozen? a:=by
  rcases h with ⟨d,rfl⟩|⟨c,x,hc,_,rfl⟩
  · rfl
  · exact World.frozen?_setCell _ _ _ _
end
structure Exit (P:Program) (K:World->Prop) (st sm:Addr) (D:Nat) (c:Chair):Prop where
  out:∃ (k:Nat) (z:Value),c.seat.cases[k]? = some (rcase D z)/\∀ g,c.seat.home g->WayD P false K (fun _=>False) (STell P K st sm) 27 0 (Conc.served g (commResult c.seat.cases c.seat.shape k z false))
  st:c.near st
  sm:c.near sm
def Sit (P:Program) (c:Chair) (n:Nat) (g:Goroutine):Prop:=∃ k w,n=k+301/\Goes P false (RK c.K) (DQ c.loc c.B) (fun g _=>∃ g₂,AtIn P false c.K c.loc c.B c.seat g g₂) k g w
theorem Sit.status {P:Program}{c:Chair}{n:Nat}{g:Goroutine}{w:World}(h:Sit P c n g)(hK:c.K w):g.status=.running:=by
  obtain ⟨k,w₀,_,hg⟩:=h
  cases k with
  | zero=>exact (hg w hK).choose_spec.1
  | succ k=>exact hg.elim (fun x=>(x w hK).choose_spec.1) (·.1)
theorem Hall.requeue {P:Program}{S:Prot}{In:Nat->Option Chair}{Q:Nat->Prop}{T:Trace}{gs:Array Goroutine}{w:World}{q q':Nat->Nat}(C:Hall P S In Q T gs w q)(h:∀ j,¬ Q j->q' j=q j):Hall P S In Q T gs w q':=
  ⟨fun j g hj hq hy=>by rw [h j hq];exact C.waits j g hj hq hy,C.wf,C.chans,C.keep,C.prot,C.nearGone,C.apart,C.none,C.tr,C.hear,C.new,C.bound,C.zero,C.seated⟩
section
variable (P:Program)(S:Prot)(K:World->Prop)(st sm:Addr)(b:Frame)(cs:List Frame)(Head:Goroutine->Prop)(own:Addr->Prop)(D:Nat)(js:List Nat)(In:Nat->Option Chair)
structure Firm:Prop where
  loop:MLoop P K st sm b cs Head
  ne:st≠sm
  gone:S.gone st
  gone':S.gone sm
  mine:∀ a,own a->¬ S.gone a
  tick:∀ w d,K w->K (w.at d)
  set:∀ w a x,(a=st∨a=sm)->K w->K (w.setCell a x)
  nodup:js.Nodup
  four:js.length<=4
  exit:∀ j ∈ js,∀ c,In j=some c->Exit P K st sm D c
def Person (T:Trace) (q:Nat->Nat) (j:Nat) (g:Goroutine):Option SPh->Prop
  | none=>Deaf T j=0/\∃ c,In j=some c/\Sit P c (q j) g
  | some p=>Is P K st sm p (q j) (Deaf T j) g
structure Join (T:Trace) (gs:Array Goroutine) (w:World) (q:Nat->Nat) (n:Nat) (mph:MPh) (ph:Nat->Option SPh) (N M:Int) (tp:Nat->Nat):Prop where
  hall:Hall P S In (· ∈ js) T gs w q
  others:∀ j ∈ js,∀ c x,In j=some c->c.seat.has x->x≠D->∃ (cap:Nat) (k:Nat × Nat),w.heap[x]? = some (.chan cap #[] false k.1 k.2 false)
  good:K w
  count:w.cell? st=some (.int .u64 N)
  sema:w.cell? sm=some (.int .u32 M)
  warm:w.frozen? st=false
  warm':w.frozen? sm=false
  closed:∃ (cap:Nat) (k:Nat × Nat),w.heap[D]? = some (.chan cap #[] true k.1 k.2 false)
  first:∃ g,gs[0]? = some g/\Im P K st sm b cs Head own N mph n (Deaf T 0) g
  people:∀ j ∈ js,∃ g,gs[j]? = some g/\Person P K st sm In T q j g (ph j)
  told:∀ j ∈ js,past (ph j)=true->Told (goneOf S) st T j (tp j)
  heard:mph=.back->∀ j ∈ js,Knows T 0 (tp j)
  mode:Mode js ph mph N M
end
section
variable {P:Program}{S:Prot}{K:World->Prop}{st sm:Addr}{b:Frame}{cs:List Frame}{Head:Goroutine->Prop}{own:Addr->Prop}{D:Nat}{js:List Nat}{In:Nat->Option Chair}
variable {T:Trace}{gs:Array Goroutine}{w:World}{q:Nat->Nat}{n:Nat}{mph:MPh}{ph:Nat->Option SPh}{N M:Int}{tp:Nat->Nat}
theorem Firm.two (F:Firm P S K st sm b cs Head own D js In){w':World}(h:Two st sm w w')(hw:K w):K w':=by
  rcases h with ⟨d,rfl⟩|⟨a,x,ha,_,rfl⟩
  · exact F.tick w d hw
  · exact F.set w a x ha hw
theorem Person.status {j:Nat}{g:Goroutine}{p:Option SPh}(h:Person P K st sm In T q j g p)(hw:K w)(hk:∀ j c,In j=some c->c.K w):g.status=.running∨(g.status=.finished/\p=some .quit):=by
  cases p with
  | none=>obtain ⟨_,c,hc,h⟩:=h;exact .inl (h.status (hk j c hc))
  | some p=>exact (Is.status h hw).imp id fun x=>⟨x.1,by rw [x.2]⟩
theorem Join.chairs (F:Firm P S K st sm b cs Head own D js In)(J:Join P S K st sm b cs Head own D js In T gs w q n mph ph N M tp){w':World}(h:Two st sm w w'):∀ j c,In j=some c->c.K w':=by
  intro j c hc a x ha
  have hk:=J.hall.prot j c a hc ⟨x,ha⟩
  rw [h.cell (fun e=>J.hall.apart st F.gone (e ▸ hk)) (fun e=>J.hall.apart sm F.gone' (e ▸ hk))]
  exact J.hall.keep j c hc a x ha
theorem Join.awake (F:Firm P S K st sm b cs Head own D js In)(J:Join P S K st sm b cs Head own D js In T gs w q n mph ph N M tp):∀ g ∈ gs,Conc.awake g:=by
  intro g hg
  obtain ⟨i,hi,rfl⟩:=Array.mem_iff_getElem.1 hg
  have hgi:=Array.getElem?_eq_getElem hi
  by_cases e:i=0
  · subst e
    obtain ⟨g,h0,h⟩:=J.first
    rw [hgi] at h0
    obtain rfl:=Option.some.inj h0
    rcases h.status F.loop J.good with ⟨h,_⟩|⟨h,_⟩
    · exact awake_of (.inl h)
    · exact awake_of (.inr (.inl h))
  · by_cases hq:i ∈ js
    · obtain ⟨g,h0,h⟩:=J.people i hq
      rw [hgi] at h0
      obtain rfl:=Option.some.inj h0
      exact awake_of ((h.status J.good J.hall.keep).elim .inl fun x=>.inr (.inr x.1))
    · have hw:=J.hall.waits i _ e hq hgi
      cases es:In i with
      | none=>rw [es] at hw;exact awake_of (hw.2.status.elim .inl fun x=>.inr (.inr x))
      | some s=>rw [es] at hw;exact awake_of ((Seated.status (J.hall.keep i s es) hw).elim (fun x=>.inl x.1) fun x=>.inr (.inl x.1))
theorem Join.runs (F:Firm P S K st sm b cs Head own D js In)(J:Join P S K st sm b cs Head own D js In T gs w q n mph ph N M tp):∃ (i:Nat) (g:Goroutine),gs[i]? = some g/\g.status=.running:=by
  obtain ⟨g,h0,h⟩:=J.first
  rcases h.status F.loop J.good with ⟨h,_⟩|⟨_,_,rfl⟩
  · exact ⟨0,g,h0,h⟩
  · have key:∀ j ∈ js,ph j≠some .quit->∃ (i:Nat) (g:Goroutine),gs[i]? = some g/\g.status=.running:=fun j hj hp=>by
      obtain ⟨g,h0,h⟩:=J.people j hj
      exact ⟨j,g,h0,(h.status J.good J.hall.keep).elim id fun x=>absurd x.2 hp⟩
    have hm:=J.mode
    generalize hmm:MPh.asleep=mm at hm
    cases hm with
    | calm h=>subst hmm;rcases h with h|h|⟨_,h⟩ <;> cases h
    | wait _ _ hc=>
      obtain ⟨j,hj,he⟩:=List.countP_pos_iff.1 hc
      exact key j hj fun e=>by rw [e] at he;cases he
    | wake _ _ hj hp=>exact key _ hj fun e=>by rw [e] at hp;rcases hp with h|h <;> cases h
    | stored _ _ hj hp=>exact key _ hj fun e=>by rw [e] at hp;cases hp
    | freed h=>subst hmm;rcases h with h|h <;> cases h
    | done h=>subst hmm;rcases h with h|h|h <;> cases h
open Classical in
theorem first_behind (hL:MLoop P K st sm b cs Head){N':Int}{d:Nat}{w':World}{g:Goroutine}{gs':Array Goroutine}(hw:K w)(h0:gs[0]? = some g)(h:Im P K st sm b cs Head own N mph n d g)(hk:gs'[0]? = gs[0]? ∨ gs'[0]? = (gs[0]?).map (·.again w')) :
    ∃ g' mph' n',gs'[0]? = some g'/\Im P K st sm b cs Head own N' mph' n' d g'/\(mph'=mph∨(mph=.asleep/\mph'=.sem))/\(gs'[0]? = (gs[0]?).map (·.again w')->mph'=if mph=.asleep then .sem else mph):=by
  have hst:=h.status hL hw
  by_cases hz:gs'[0]? = (gs[0]?).map (·.again w')
  · rcases hst with ⟨hr,hn⟩|⟨_,_,rfl⟩
    · obtain ⟨n',h'⟩:=h.recount (N':=N')
      refine ⟨g,mph,n',by rw [hz,h0,Option.map_some,again_running w' (.inl hr)],h',.inl rfl,fun _=>by rw [if_neg hn]⟩
    · obtain ⟨e,h'⟩:=h.awake w'
      obtain ⟨n',h''⟩:=h'.recount (N':=N')
      exact ⟨_,.sem,n',by rw [hz,h0,Option.map_some,e],h'',.inr ⟨rfl,rfl⟩,fun _=>by rw [if_pos rfl]⟩
  · rcases hk with hk|hk
    · obtain ⟨n',h'⟩:=h.recount (N':=N')
      exact ⟨g,mph,n',by rw [hk,h0],h',.inl rfl,fun z=>absurd z hz⟩
    · exact absurd hk hz
theorem Mode.quits (H:Mode js ph mph N M)(hm:mph=.last∨mph=.acq∨mph=.back):∀ j ∈ js,ph j=some .quit:=by
  intro j hj
  have key:cnt js ph=0->waking (ph j)=false->ph j=some .quit:=fun h1 h2=>by
    have h3:Go.Tame.early (ph j)=false:=by
      cases e:Go.Tame.early (ph j) with
      | false=>rfl
      | true=>have:=cnt_pos hj e;omega
    cases e:ph j with
    | none=>rw [e] at h3;cases h3
    | some p=>rw [e] at h2 h3;cases p <;> first|rfl|exact absurd h2 (by decide)|exact absurd h3 (by decide)
  cases H with
  | calm a=>rcases hm with rfl|rfl|rfl <;> rcases a with a|a|⟨_,a⟩ <;> cases a
  | wait a=>rcases hm with rfl|rfl|rfl <;> rcases a with a|a|a <;> cases a
  | wake a=>rcases hm with rfl|rfl|rfl <;> rcases a with a|a|a <;> cases a
  | stored a=>rcases hm with rfl|rfl|rfl <;> rcases a with a|a|a <;> cases a
  | freed a=>rcases hm with rfl|rfl|rfl <;> rcases a with a|a <;> cases a
  | done _ h1 h2=>exact key h1 (h2 j hj)
theorem Join.at (F:Firm P S K st sm b cs Head own D js In)(J:Join P S K st sm b cs Head own D js In T gs w q n mph ph N M tp)(d:Nat):Join P S K st sm b cs Head own D js In T gs (w.at d) q n mph ph N M tp:=
  ⟨J.hall.at d,J.others,F.tick w d J.good,J.count,J.sema,J.warm,J.warm',J.closed,J.first,J.people,J.told,J.heard,J.mode⟩
theorem Person.same {T':Trace}{q':Nat->Nat}{j:Nat}{g:Goroutine}{p:Option SPh}(h:Person P K st sm In T q j g p)(hd:Deaf T' j=Deaf T j)(hq:q' j=q j):Person P K st sm In T' q' j g p:=by
  cases p with
  | none=>obtain ⟨h1,c,hc,h⟩:=h;exact ⟨hd.trans h1,c,hc,by rw [hq];exact h⟩
  | some p=>show Is P K st sm p (q' j) (Deaf T' j) g;rw [hd,hq];exact h
theorem gone_still {S:Prot}(h:∀ j c a,In j=some c->c.still a->S.keep a)(ha:∀ a,S.gone a->¬ S.keep a):∀ g l,goneOf S l->¬ stillOf In g l:=by
  rintro g _ ⟨a,rfl,hg⟩ ⟨c,hc,x,e,hs⟩
  cases e
  exact ha a hg (h g c a hc hs)
theorem Told.other {G:Loc->Prop}{a:Addr}{t u:Trace}{j p i:Nat}(H:Told G a t j p)(hne:j≠i)(hu:∀ op ∈ u,op.g=i)(hn:∀ op ∈ u,op.act≠.mark (.release a)):Told G a (t++u) j p:=
  H.app (fun k op ho hk hj=>by
    rcases getElem?_append_cases ho with ⟨hlt,_⟩|⟨_,hou⟩
    · omega
    · exact absurd (hj.symm.trans (hu op hou)) hne) hn
theorem norel_ops {a:Addr}{i:Nat}{fn:FuncId}{pos:String}{es:Array Event}(h:∀ e ∈ es,e.loc≠.mark (.release a)):∀ op ∈ MemOp.ofEvents i fn pos es,op.act≠.mark (.release a):=by
  intro op hop e
  obtain ⟨ev,hev,rfl⟩:=Go.Conc.mem_ofEvents hop
  refine h ev hev ?_
  obtain ⟨loc,wr,sy⟩:=ev
  cases loc with
  | mark m=>simp only [MemAct.ofEvent,MemAct.mark.injEq] at e;rw [e]
  | _=>cases wr <;> cases sy <;> simp [MemAct.ofEvent] at e
theorem own_ops {i:Nat}{fn:FuncId}{pos:String}{es:Array Event}:∀ op ∈ MemOp.ofEvents i fn pos es,op.g=i:=fun op hop=>by obtain ⟨e,_,rfl⟩:=Go.Conc.mem_ofEvents hop;rfl
def left (In:Nat->Option Chair) (js:List Nat) (j:Nat):Option Chair:=if j ∈ js then none else In j
theorem E0.norel {a:Addr}{e:Event}(h:E0 own e):e.loc≠.mark (.release a):=by
  rcases h with h|⟨_,_,rfl⟩
  · intro z
    obtain ⟨loc,wr,sy⟩:=e
    simp only at z
    subst z
    cases h
  · nofun
theorem E0.touch {e:Event}{x:Touch}(h:E0 own e)(hm:∀ a,own a->¬ S.gone a)(hx:(MemAct.ofEvent e).touch? = some x):(x.write=true->∀ g,¬ stillOf In g x.loc)/\¬ goneOf S x.loc:=by
  rcases h with h|⟨a,ha,rfl⟩
  · rw [touch_mute h] at hx;cases hx
  · simp [MemAct.ofEvent,MemAct.touch?] at hx
    subst hx
    refine ⟨fun h=>(by cases h),fun ⟨y,hy,hg⟩=>?_⟩
    cases hy
    exact hm a ha hg
theorem Join.main (F:Firm P S K st sm b cs Head own D js In)(J:Join P S K st sm b cs Head own D js In T gs w q n mph ph N M tp){g:Goroutine}(hi:gs[0]? = some g)(hr:g.status=.running)(sl:Option (Nat × Nat)) :
    (∃ gs' w' ops n' mph' N' M',runT P (crowd gs w sl) 0=(.next (crowd gs' w' sl),ops)/\gs'.size=gs.size/\Two st sm w w'/\n'<n/\Join P S K st sm b cs Head own D js In (T++ops) gs' w' q n' mph' ph N' M' tp) ∨
    (∃ gs' ops,runT P (crowd gs w sl) 0=(.next (crowd gs' w sl),ops)/\gs'.size=gs.size/\gs'[0]? = some (G (b.finish (.tuple #[])) cs)/\House P S (left In js) 0 (T++ops) gs' w q):=by
  obtain ⟨g₀,h0,hIm⟩:=J.first
  rw [hi] at h0
  obtain rfl:=Option.some.inj h0
  have hlt:0<gs.size:=(Array.getElem?_eq_some_iff.1 hi).1
  have hzero:∀ j ∈ js,j≠0:=fun j hj e=>J.hall.zero (e ▸ hj)
  have hG:=gone_still (In:=In) J.hall.prot J.hall.apart
  rcases hIm.step F.loop hr J.good J.count J.sema J.warm J.warm' (fun h=>J.mode.loads F.four h) (fun h=>J.mode.sems h) (fun h=>J.mode.lasts h) with ⟨g',w',es,mph',n',N',hst,hn,hN',hIm',hdo⟩|⟨rfl,hd,hst⟩
  · left
    obtain ⟨N'',M',hc1,hc2,hmode⟩:=J.mode.main hdo hIm.cas J.count J.sema F.ne
    have eN:N''=N':=by rw [hN'] at hc1;cases hc1;rfl
    subst eN
    have h2:Two st sm w w':=hdo.two (by rw [J.count];rfl) (by rw [J.sema];rfl)
    have hgood:=hdo.good (S:=S) (a:=st) F.gone F.gone'
    have hops:∀ op ∈ MemOp.ofEvents 0 g.frame.fn g.frame.place es,op.g=0:=own_ops
    have hrel:=norel_ops (a:=st) (i:=0) (fn:=g.frame.fn) (pos:=g.frame.place) (es:=es) (hgood.elim (fun h e he=>(h e he).norel) fun h e he=>(h e he).2)
    have ht:Tr (stillOf In) (nearOf In) (goneOf S) (Knows (T++MemOp.ofEvents 0 g.frame.fn g.frame.place es) 0) (T++MemOp.ofEvents 0 g.frame.fn g.frame.place es):=
      hgood.elim (fun h=>J.hall.tr.work hops (fun op hop x hx=>by obtain ⟨e,he,rfl⟩:=Go.Conc.mem_ofEvents hop;exact (h e he).touch F.mine hx) (near_gone J.hall.nearGone)) fun h=>J.hall.tr.mine hops (fun op hop x hx=>by obtain ⟨e,he,rfl⟩:=Go.Conc.mem_ofEvents hop;exact (h e he).1 x hx) hG
    have C0:Hall P S In (· ∈ js) (T++MemOp.ofEvents 0 g.frame.fn g.frame.place es) gs w' q:=J.hall.move (.inl rfl) rfl (fun _ _ _=>rfl) hops (J.chairs F h2) (fun x cap k h=>h2.chan h) ht hlt
    have hfix:∀ x y,x≠0->gs[x]? = some y->y.again w'=y:=fun x y hx hy=>by
      by_cases hq:x ∈ js
      · obtain ⟨y',h1,h⟩:=J.people x hq
        rw [hy] at h1
        obtain rfl:=Option.some.inj h1
        exact again_running w' ((h.status J.good J.hall.keep).imp id (·.1))
      · exact C0.fixed hx hq hy
    have hsame:∀ x,x≠0->((gs.map (woken P g g' w')).setIfInBounds 0 g')[x]? = gs[x]?:=fun x hx=>by
      rw [Array.getElem?_setIfInBounds_ne (fun e=>hx e.symm),Array.getElem?_map]
      cases e:gs[x]? with
      | none=>rfl
      | some y=>simp [woken_of_again (hfix x y hx e)]
    have hdeaf:∀ j,j≠0->Deaf (T++MemOp.ofEvents 0 g.frame.fn g.frame.place es) j=Deaf T j:=fun j hj=>Deaf_other T (fun e=>hj e.symm) _ hops
    refine ⟨_,w',_,n',mph',N'',M',runT_crowd_go (sl:=sl) hi hst,by simp,h2,hn,?_⟩
    refine ⟨J.hall.move (.inl rfl) (by simp) (fun x hx _=>hsame x hx) hops (J.chairs F h2) (fun x cap k h=>h2.chan h) ht hlt,fun j hj c x hc hx hne=>?_,F.two h2 J.good,hc1,hc2,by rw [h2.frozen];exact J.warm,by rw [h2.frozen];exact J.warm',?_,⟨g',Array.getElem?_setIfInBounds_self_of_lt (by simpa using hlt),by rw [Deaf_own];exact hIm'⟩,fun j hj=>?_,fun j hj hp=>(J.told j hj hp).other (hzero j hj) hops hrel,fun e j hj=>?_,hmode⟩
    · obtain ⟨cap,k,h⟩:=J.others j hj c x hc hx hne
      exact ⟨cap,k,h2.chan h⟩
    · obtain ⟨cap,k,h⟩:=J.closed
      exact ⟨cap,k,h2.chan h⟩
    · obtain ⟨y,hy,h⟩:=J.people j hj
      exact ⟨y,by rw [hsame j (hzero j hj)];exact hy,h.same (hdeaf j (hzero j hj)) rfl⟩
    · subst e
      cases hdo with
      | quiet=>exact (J.heard rfl j hj).app _
      | hear h=>exact (J.told j hj (by rw [J.mode.quits (.inr (.inl rfl)) j hj];rfl)).hear h _ _
  · right
    refine ⟨_,_,runT_crowd_go (sl:=sl) hi hst,by simp,Array.getElem?_setIfInBounds_self_of_lt (by simpa using hlt),?_⟩
    have hops0:MemOp.ofEvents 0 g.frame.fn g.frame.place #[] = #[]:=by simp [ofEvents_eq]
    rw [hops0,Array.append_empty]
    have hfix:∀ x y,x≠0->gs[x]? = some y->y.again w=y:=fun x y hx hy=>by
      by_cases hq:x ∈ js
      · obtain ⟨y',h1,h⟩:=J.people x hq
        rw [hy] at h1
        obtain rfl:=Option.some.inj h1
        exact again_running w ((h.status J.good J.hall.keep).imp id (·.1))
      · exact J.hall.fixed hx hq hy
    have hsame:∀ x,x≠0->((gs.map (woken P g (G (b.finish (.tuple #[])) cs) w)).setIfInBounds 0 (G (b.finish (.tuple #[])) cs))[x]? = gs[x]?:=fun x hx=>by
      rw [Array.getElem?_setIfInBounds_ne (fun e=>hx e.symm),Array.getElem?_map]
      cases e:gs[x]? with
      | none=>rfl
      | some y=>simp [woken_of_again (hfix x y hx e)]
    have hin:∀ j c,left In js j=some c->j ∉ js/\In j=some c:=fun j c h=>by
      unfold left at h
      split at h
      · cases h
      · rename_i hq;exact ⟨hq,h⟩
    refine ⟨fun j y hj hy=>?_,fun j c h=>J.hall.wf j c (hin j c h).2,fun j c x h hx=>J.hall.chans j c x (hin j c h).2 (hin j c h).1 hx,fun j c h=>J.hall.keep j c (hin j c h).2,fun j c a h=>J.hall.prot j c a (hin j c h).2,fun j c a h=>J.hall.nearGone j c a (hin j c h).2,J.hall.apart,?_,?_,hd,fun j c h=>J.hall.hear j c (hin j c h).2 (hin j c h).1,fun j hj=>J.hall.new j (by simpa using hj),fun j c h=>by simpa using J.hall.bound j c (hin j c h).2⟩
    · rw [hsame j hj] at hy
      by_cases hq:j ∈ js
      · obtain ⟨y',h1,h⟩:=J.people j hq
        rw [hy] at h1
        obtain rfl:=Option.some.inj h1
        rw [J.mode.quits (.inr (.inr rfl)) j hq] at h
        have:left In js j=none:=if_pos hq
        rw [this]
        exact ⟨hj,h⟩
      · have:left In js j=In j:=if_neg hq
        rw [this]
        exact J.hall.waits j y hj hq hy
    · unfold left
      split
      · rfl
      · exact J.hall.none
    · refine Tr.weaken (J.hall.tr.joined (Q:=(· ∈ js)) (a:=st) fun j hj=>⟨tp j,J.told j hj (by rw [J.mode.quits (.inr (.inr rfl)) j hj];rfl),J.heard rfl j hj⟩) (fun j l ⟨c,hc,h⟩=>⟨(hin j c hc).1,c,(hin j c hc).2,h⟩) (fun j l ⟨hq,c,hc,h⟩=>⟨c,by unfold left;rw [if_neg hq];exact hc,h⟩) (fun j l ⟨c,a,hc,h⟩=>⟨(hin j c hc).1,c,a,(hin j c hc).2,h⟩)
end
end
section
open Go.ConcN (sumTo upd sumTo_upd upd_ne upd_same)
section
variable {P:Program}{S:Prot}{K:World->Prop}{st sm:Addr}{b:Frame}{cs:List Frame}{Head:Goroutine->Prop}{own:Addr->Prop}{D:Nat}{js:List Nat}{In:Nat->Option Chair}
variable {T:Trace}{gs:Array Goroutine}{w:World}{q:Nat->Nat}{n:Nat}{mph:MPh}{ph:Nat->Option SPh}{N M:Int}{tp:Nat->Nat}
open Classical in
theorem Join.behind (F:Firm P S K st sm b cs Head own D js In)(J:Join P S K st sm b cs Head own D js In T gs w q n mph ph N M tp){i:Nat}{g':Goroutine}{gs':Array Goroutine}{w':World}{ops:Trace}{p':Option SPh}{m:Nat}{N' M':Int}{tp':Nat->Nat}
    (hi:i ∈ js) (hlt:i<gs.size) (hsz:gs'.size=gs.size) (hself:gs'[i]? = some g') (hoth:∀ x,x≠i->x≠0->gs'[x]? = gs[x]?) (hfirst:gs'[0]? = gs[0]? ∨ gs'[0]? = (gs[0]?).map (·.again w')) (hops:∀ op ∈ ops,op.g=i) (h2:Two st sm w w')
    (ht:Tr (stillOf In) (nearOf In) (goneOf S) (Knows (T++ops) 0) (T++ops)) (hperson:Person P K st sm In (T++ops) (upd q i m) i g' p') (htold:∀ j ∈ js,past (upd ph i p' j)=true->Told (goneOf S) st (T++ops) j (tp' j)) (htp:mph=.back->tp'=tp)
    (hN:w'.cell? st=some (.int .u64 N')) (hM:w'.cell? sm=some (.int .u32 M')) (hmode:∀ mph',(mph'=mph∨(mph=.asleep/\mph'=.sem))->(gs'[0]? = (gs[0]?).map (·.again w')->mph'=if mph=.asleep then .sem else mph)->Mode js (upd ph i p') mph' N' M') :
    ∃ n' mph',Join P S K st sm b cs Head own D js In (T++ops) gs' w' (upd q i m) n' mph' (upd ph i p') N' M' tp':=by
  have hzero:∀ j ∈ js,j≠0:=fun j hj e=>J.hall.zero (e ▸ hj)
  obtain ⟨g,h0,hIm⟩:=J.first
  obtain ⟨g₁,mph',n',k1,k2,k3,k4⟩:=first_behind (w':=w') (N':=N') F.loop J.good h0 hIm hfirst
  have hdeaf:∀ j,j≠i->Deaf (T++ops) j=Deaf T j:=fun j hj=>Deaf_other T (fun e=>hj e.symm) _ hops
  refine ⟨n',mph',(J.hall.move (.inr hi) hsz (fun x hx hq=>hoth x (fun e=>hq (e ▸ hi)) hx) hops (J.chairs F h2) (fun x cap k h=>h2.chan h) ht hlt).requeue fun j hj=>upd_ne q m (fun e=>hj (e ▸ hi)),fun j hj c x hc hx hne=>?_,F.two h2 J.good,hN,hM,by rw [h2.frozen];exact J.warm,by rw [h2.frozen];exact J.warm',?_,⟨g₁,k1,by rw [hdeaf 0 (fun e=>hzero i hi e.symm)];exact k2⟩,fun j hj=>?_,htold,fun e j hj=>?_,hmode mph' k3 k4⟩
  · obtain ⟨cap,k,h⟩:=J.others j hj c x hc hx hne
    exact ⟨cap,k,h2.chan h⟩
  · obtain ⟨cap,k,h⟩:=J.closed
    exact ⟨cap,k,h2.chan h⟩
  · by_cases e:j=i
    · subst e;exact ⟨g',hself,by rw [upd_same];exact hperson⟩
    · obtain ⟨y,hy,h⟩:=J.people j hj
      exact ⟨y,by rw [hoth j e (hzero j hj)];exact hy,by rw [upd_ne ph p' e];exact h.same (hdeaf j e) (upd_ne q m e)⟩
  · have hb:mph=.back:=by rcases k3 with k|⟨_,k⟩ <;> rw [k] at e <;> first|exact e|cases e
    rw [htp hb]
    exact (J.heard hb j hj).app _
theorem less {i m:Nat}(hlt:i<gs.size)(h:m<q i):sumTo gs.size (upd q i m)<sumTo gs.size q:=by
  have h2:sumTo gs.size (upd q i m)+q i=sumTo gs.size q+m:=by simpa using sumTo_upd q m id hlt
  omega
theorem Join.noSend (F:Firm P S K st sm b cs Head own D js In)(J:Join P S K st sm b cs Head own D js In T gs w q n mph ph N M tp){x:Nat}{y:Goroutine}(hy:gs[x]? = some y)(c:Nat):offersAt y c true = []:=by
  by_cases e:x=0
  · subst e
    obtain ⟨g,h0,h⟩:=J.first
    rw [hy] at h0
    obtain rfl:=Option.some.inj h0
    rcases h.status F.loop J.good with ⟨h,_⟩|⟨_,h,_⟩
    · exact offersAt_of_not_blocked (fun z=>by rw [h] at z;cases z) _ _
    · exact offersAt_none h _ _
  · by_cases hq:x ∈ js
    · obtain ⟨g,h0,h⟩:=J.people x hq
      rw [hy] at h0
      obtain rfl:=Option.some.inj h0
      exact offersAt_of_not_blocked (fun z=>by rcases h.status J.good J.hall.keep with h|⟨h,_⟩ <;> (rw [h] at z;cases z)) _ _
    · exact J.hall.noSend e hq hy c
theorem Join.still (F:Firm P S K st sm b cs Head own D js In)(J:Join P S K st sm b cs Head own D js In T gs w q n mph ph N M tp){w':World}{ops:Trace}{i:Nat}{g g':Goroutine}(hi:i ∈ js)(hlt:i<gs.size)(hops:∀ op ∈ ops,op.g=i)(h2:Two st sm w w')
    (ht:Tr (stillOf In) (nearOf In) (goneOf S) (Knows (T++ops) 0) (T++ops)):(∀ x,x≠i->x≠0->((gs.map (woken P g g' w')).setIfInBounds i g')[x]? = gs[x]?) /\
      (((gs.map (woken P g g' w')).setIfInBounds i g')[0]? = gs[0]? ∨ ((gs.map (woken P g g' w')).setIfInBounds i g')[0]? = (gs[0]?).map (·.again w')) /\
      (mayWake P g=true->(g'.status=.running∨g'.status=.finished)->((gs.map (woken P g g' w')).setIfInBounds i g')[0]? = (gs[0]?).map (·.again w')):=by
  have C0:Hall P S In (· ∈ js) (T++ops) gs w' q:=J.hall.move (.inr hi) rfl (fun _ _ _=>rfl) hops (J.chairs F h2) (fun x cap k h=>h2.chan h) ht hlt
  have hi0:i≠0:=fun e=>J.hall.zero (e ▸ hi)
  refine ⟨fun x hx h0=>?_,?_,fun hm hs=>?_⟩
  · rw [Array.getElem?_setIfInBounds_ne (fun e=>hx e.symm),Array.getElem?_map]
    cases e:gs[x]? with
    | none=>rfl
    | some y=>
      have hfix:y.again w'=y:=by
        by_cases hq:x ∈ js
        · obtain ⟨y',h1,h⟩:=J.people x hq
          rw [e] at h1
          obtain rfl:=Option.some.inj h1
          exact again_running w' ((h.status J.good J.hall.keep).imp id (·.1))
        · exact C0.fixed h0 hq e
      simp [woken_of_again hfix]
  · rw [Array.getElem?_setIfInBounds_ne hi0,Array.getElem?_map]
    unfold woken
    split
    · exact .inr rfl
    · exact .inl (by cases gs[0]? <;> rfl)
  · rw [Array.getElem?_setIfInBounds_ne hi0,Array.getElem?_map]
    have:(mayWake P g && g'.status != .blocked && g'.status != .waiting)=true:=by
      rw [hm]
      rcases hs with h|h <;> rw [h] <;> rfl
    unfold woken
    simp only [this,if_true]
theorem Mode.stirred {mph':MPh}(H:Mode js ph mph N M)(h:mph'=mph∨(mph=.asleep/\mph'=.sem)):Mode js ph mph' N M:=by
  rcases h with rfl|⟨rfl,rfl⟩
  · exact H
  · exact H.stir
theorem Join.shard (F:Firm P S K st sm b cs Head own D js In)(J:Join P S K st sm b cs Head own D js In T gs w q n mph ph N M tp){i:Nat}{g:Goroutine}{p:SPh}(hi:i ∈ js)(hg:gs[i]? = some g)(hr:g.status=.running)(hp:ph i=some p)(sl:Option (Nat × Nat)) :
    ∃ gs' w' ops q' n' mph' ph' N' M' tp',runT P (crowd gs w sl) i=(.next (crowd gs' w' sl),ops)/\gs'.size=gs.size/\Two st sm w w'/\sumTo gs.size q'<sumTo gs.size q/\Join P S K st sm b cs Head own D js In (T++ops) gs' w' q' n' mph' ph' N' M' tp':=by
  obtain ⟨g₀,h0,hP⟩:=J.people i hi
  rw [hg] at h0
  obtain rfl:=Option.some.inj h0
  rw [hp] at hP
  have hlt:i<gs.size:=(Array.getElem?_eq_some_iff.1 hg).1
  have hi0:i≠0:=fun e=>J.hall.zero (e ▸ hi)
  have h00:(i == 0)=false:=beq_eq_false_iff_ne.2 hi0
  obtain ⟨c,hc⟩:=J.hall.seated i hi
  have hE:=F.exit i hi c hc
  have hG:=gone_still (In:=In) J.hall.prot J.hall.apart
  obtain ⟨g',w',es,p',m,hst,hm,hIs,hdo,hwk⟩:=Is.step (N:=N) (M:=M) hP hr J.good J.count J.sema J.warm J.warm' (fun e=>by subst e;exact (J.mode.add F.four hi hp).2) (fun e=>by subst e;exact J.mode.one hi hp)
  have h2:Two st sm w w':=hdo.two (by rw [J.count];rfl) (by rw [J.sema];rfl)
  have hops:∀ op ∈ MemOp.ofEvents i g.frame.fn g.frame.place es,op.g=i:=own_ops
  have hA:=hdo.aside
  have ht:=hA.tr (fn:=g.frame.fn) (pos:=g.frame.place) J.hall.tr (fun a ha=>ha.elim (fun e=>e ▸ ⟨⟨st,rfl,F.gone⟩,c,st,hc,rfl,hE.st⟩) (fun e=>e ▸ ⟨⟨sm,rfl,F.gone'⟩,c,sm,hc,rfl,hE.sm⟩)) hG
  obtain ⟨s1,s2,s3⟩:=J.still F (g:=g) (g':=g') hi hlt hops h2 ht
  obtain ⟨N',M',hN,hM,hmode⟩:=J.mode.shard F.nodup F.four hi hp hdo J.count J.sema F.ne
  have hself:((gs.map (woken P g g' w')).setIfInBounds i g')[i]? = some g':=Array.getElem?_setIfInBounds_self_of_lt (by simpa using hlt)
  have hfin:g'.status=.running∨g'.status=.finished:=(Is.status hIs (F.two h2 J.good)).imp id (·.1)
  have htell:∀ j ∈ js,past (ph j)=true->Told (goneOf S) st (T++MemOp.ofEvents i g.frame.fn g.frame.place es) j (tp j):=fun j hj hpj=>hA.told (J.told j hj hpj) (fun a ha=>ha.elim (fun e=>e ▸ ⟨st,rfl,F.gone⟩) (fun e=>e ▸ ⟨sm,rfl,F.gone'⟩)) hdo.norel
  obtain ⟨tp',htp,htold⟩:∃ tp':Nat->Nat,(mph=.back->tp'=tp)/\∀ j ∈ js,past (upd ph i (some p') j)=true->Told (goneOf S) st (T++MemOp.ofEvents i g.frame.fn g.frame.place es) j (tp' j):=by
    by_cases hpp:past (some p)=true
    · refine ⟨tp,fun _=>rfl,fun j hj hpj=>htell j hj ?_⟩
      by_cases e:j=i
      · subst e;rw [hp];exact hpp
      · rw [upd_ne ph _ e] at hpj;exact hpj
    · have hout:p=.out:=by cases p <;> first|rfl|exact absurd rfl hpp
      subst hout
      by_cases hpo:p'=.out
      · subst hpo
        refine ⟨tp,fun _=>rfl,fun j hj hpj=>htell j hj ?_⟩
        by_cases e:j=i
        · subst e;rw [upd_same] at hpj;cases hpj
        · rw [upd_ne ph _ e] at hpj;exact hpj
      · refine ⟨upd tp i T.size,fun e=>?_,fun j hj hpj=>?_⟩
        · subst e
          have:=J.mode.quits (.inr (.inr rfl)) i hi
          rw [hp] at this
          cases this
        · by_cases e:j=i
          · subst e
            rw [upd_same]
            cases hdo with
            | quiet=>exact absurd rfl hpo
            | tell hd=>exact Told.new hd _ _
          · rw [upd_ne ph _ e] at hpj
            rw [upd_ne tp _ e]
            exact htell j hj hpj
  obtain ⟨n',mph',hJ⟩:=J.behind F (m:=m) (p':=some p') (tp':=tp') hi hlt (by simp) hself s1 s2 hops h2 ht (show Is P K st sm p' (upd q i m i) _ g' by rw [upd_same,Deaf_own];exact hIs) htold htp hN hM fun mph' k1 k2=>by
    rcases hmode with ⟨_,hmode⟩|⟨e1,e2,hmode⟩
    · exact hmode.stirred k1
    · rw [k2 (s3 (hwk e1 e2) hfin)];exact hmode
  exact ⟨_,w',_,_,n',mph',_,N',M',tp',runT_crowd_go (sl:=sl) hg (by rw [h00];exact hst),by simp,h2,less hlt hm,hJ⟩
theorem Join.seat (F:Firm P S K st sm b cs Head own D js In)(J:Join P S K st sm b cs Head own D js In T gs w q n mph ph N M tp){i:Nat}{g:Goroutine}(hi:i ∈ js)(hg:gs[i]? = some g)(hp:ph i=none)(sl:Option (Nat × Nat)) :
    ∃ gs' w' ops q' n' mph' ph' N' M' tp',runT P (crowd gs w sl) i=(.next (crowd gs' w' sl),ops)/\gs'.size=gs.size/\Two st sm w w'/\sumTo gs.size q'<sumTo gs.size q/\Join P S K st sm b cs Head own D js In (T++ops) gs' w' q' n' mph' ph' N' M' tp':=by
  obtain ⟨g₀,h0,hP⟩:=J.people i hi
  rw [hg] at h0
  obtain rfl:=Option.some.inj h0
  rw [hp] at hP
  have hlt:i<gs.size:=(Array.getElem?_eq_some_iff.1 hg).1
  have hi0:i≠0:=fun e=>J.hall.zero (e ▸ hi)
  have h00:(i == 0)=false:=beq_eq_false_iff_ne.2 hi0
  obtain ⟨hdf,c,hc,k,w₀,hqi,hgo⟩:=hP
  have hE:=F.exit i hi c hc
  have hK:=J.hall.keep i c hc
  have hwf:=J.hall.wf i c hc
  have hcase:(∃ g₂,AtIn P false c.K c.loc c.B c.seat g g₂)∨∃ k' g' es d,k=k'+1/\stepG P false g w=.go g' (w.at d) es/\(∀ e ∈ es,EvC c.loc c.B e)/\Goes P false (RK c.K) (DQ c.loc c.B) (fun g _=>∃ g₂,AtIn P false c.K c.loc c.B c.seat g g₂) k' g' (w.at d):=by
    cases k with
    | zero=>exact .inl (hgo w hK)
    | succ k'=>
      rcases hgo with hstop|⟨_,hstep⟩
      · exact .inl (hstop w hK)
      · have hs:=hstep w hK
        cases hst:stepG P false g w with
        | go g' w' es=>
          rw [hst,goes_go] at hs
          obtain ⟨⟨⟨d,rfl⟩,hes⟩,hG'⟩:=hs
          exact .inr ⟨k',g',es,d,rfl,rfl,hes,hG'⟩
        | _=>rw [hst] at hs;exact hs.elim
  have hns:=near_still J.hall.nearGone J.hall.prot J.hall.apart
  have hnorel:∀ es:Array Event,(∀ e ∈ es,EvC c.loc c.B e)->∀ e ∈ es,e.loc≠.mark (.release st):=fun es hes e he=>by
    obtain ⟨a,rfl,_⟩:=hes e he
    nofun
  rcases hcase with ⟨g₂,hat⟩|⟨k',g',es,d,rfl,hst,hes,hG'⟩
  · obtain ⟨_,_,_,_,hhome,es,hes,hstp⟩:=id hat
    obtain ⟨hops,hrd,hd⟩:=read_ops (i:=i) (fn:=g.frame.fn) (pos:=g.frame.place) hes
    obtain ⟨k₀,z,hk,hout⟩:=hE.out
    obtain ⟨cap,kk,hcl⟩:=J.closed
    have hpart:∀ x:Nat,partners (gs.setIfInBounds i Conc.ph) x true = []:=fun x=>partners_nil fun y r hy=>by
      rcases getElem?_stand gs i y r hy with ⟨_,rfl⟩|⟨_,hy'⟩
      · exact offersAt_ph _ _
      · exact J.noSend F hy' _
    have hno:∀ (m:Nat) (c':CommCase),m≠k₀->c.seat.cases[m]? = some c'->NoWays w (gs.setIfInBounds i Conc.ph) c':=by
      intro m c' hm hc'
      obtain ⟨x,z',rfl⟩:=hwf.recvs c' (Array.mem_of_getElem? hc')
      have hx:x≠D:=fun e=>by subst e;exact hm (hwf.apart _ _ _ _ _ hc' hk)
      obtain ⟨cap',k',hc''⟩:=J.others i hi c x hc ⟨m,z',hc'⟩ hx
      exact ways_recv_none hc'' (hpart x)
    have hrun:=crowd_sel_recv_closed (sl:=sl) hg (by rw [h00];exact hstp w hK) hk hno hcl (hpart D)
    rw [finishComm_served] at hrun
    have hx1:∀ op ∈ MemOp.ofEvents i g.frame.fn g.frame.place es++(#[{ g:=i,fn:=g₂.frame.fn,pos:=g₂.frame.place,act:=.recvClosed D }]:Trace),op.g=i:=by
      intro op hop
      rcases Array.mem_append.1 hop with z|z
      · exact hops op z
      · simp only [List.mem_toArray,List.mem_cons,List.not_mem_nil,or_false] at z;subst z;rfl
    have ht:Tr (stillOf In) (nearOf In) (goneOf S) (Knows (T++(MemOp.ofEvents i g.frame.fn g.frame.place es ++ #[{ g:=i,fn:=g₂.frame.fn,pos:=g₂.frame.place,act:=.recvClosed D }])) 0) (T++(MemOp.ofEvents i g.frame.fn g.frame.place es ++ #[{ g:=i,fn:=g₂.frame.fn,pos:=g₂.frame.place,act:=.recvClosed D }])):=by
      rw [← Array.append_assoc]
      refine (J.hall.tr.read (g:=i) hops (fun op hop b hb=>⟨(hrd op hop b hb).1,c,hc,(hrd op hop b hb).2⟩) hns).mute fun op hop=>?_
      simp only [List.mem_toArray,List.mem_cons,List.not_mem_nil,or_false] at hop
      subst hop;rfl
    have hdeaf:Deaf (T++(MemOp.ofEvents i g.frame.fn g.frame.place es ++ #[{ g:=i,fn:=g₂.frame.fn,pos:=g₂.frame.place,act:=.recvClosed D }])) i=0:=by
      rw [← Array.append_assoc,Deaf_quiet (fun op hop d=>?_),hd,hdf]
      simp only [List.mem_toArray,List.mem_cons,List.not_mem_nil,or_false] at hop
      subst hop;rfl
    have hrel:∀ op ∈ MemOp.ofEvents i g.frame.fn g.frame.place es++(#[{ g:=i,fn:=g₂.frame.fn,pos:=g₂.frame.place,act:=.recvClosed D }]:Trace),op.act≠.mark (.release st):=by
      intro op hop
      rcases Array.mem_append.1 hop with z|z
      · exact norel_ops (hnorel es hes) op z
      · simp only [List.mem_toArray,List.mem_cons,List.not_mem_nil,or_false] at z;subst z;nofun
    obtain ⟨n',mph',hJ⟩:=J.behind F (m:=287) (p':=some .out) (tp':=tp) hi hlt (gs':=gs.setIfInBounds i (Conc.served g₂ (commResult c.seat.cases c.seat.shape k₀ z false))) (by simp) (Array.getElem?_setIfInBounds_self_of_lt hlt) (fun x hx _=>Array.getElem?_setIfInBounds_ne (fun e=>hx e.symm)) (.inl (Array.getElem?_setIfInBounds_ne hi0)) hx1 (.inl ⟨w.drawn,rfl⟩) ht
      (show Is P K st sm .out (upd q i 287 i) _ _ from ⟨27,upd_same ..,by rw [hdeaf];exact hout g₂ hhome⟩)
      (fun j hj hpj=>by
        have e:j≠i:=fun e=>by subst e;rw [upd_same] at hpj;cases hpj
        rw [upd_ne ph _ e] at hpj
        exact (J.told j hj hpj).other e hx1 hrel) (fun _=>rfl) J.count J.sema fun mph' k1 _=>(J.mode.early F.nodup hi (by rw [hp];rfl) rfl).stirred k1
    exact ⟨_,w,_,_,n',mph',_,N,M,tp,hrun,by simp,.inl ⟨w.drawn,rfl⟩,less hlt (by omega),hJ⟩
  · obtain ⟨hops,hrd,hd⟩:=read_ops (i:=i) (fn:=g.frame.fn) (pos:=g.frame.place) hes
    have h2:Two st sm w (w.at d):=.inl ⟨d,rfl⟩
    have ht:=J.hall.tr.read (g:=i) hops (fun op hop b hb=>⟨(hrd op hop b hb).1,c,hc,(hrd op hop b hb).2⟩) hns
    obtain ⟨s1,s2,_⟩:=J.still F (g:=g) (g':=g') hi hlt hops h2 ht
    have hrel:=norel_ops (i:=i) (fn:=g.frame.fn) (pos:=g.frame.place) (hnorel es hes)
    obtain ⟨n',mph',hJ⟩:=J.behind F (m:=k'+301) (p':=none) (tp':=tp) hi hlt (gs':=(gs.map (woken P g g' (w.at d))).setIfInBounds i g') (by simp) (Array.getElem?_setIfInBounds_self_of_lt (by simpa using hlt)) s1 s2 hops h2 ht
      ⟨(hd T).trans hdf,c,hc,k',w.at d,upd_same ..,hG'⟩
      (fun j hj hpj=>by
        have e:j≠i:=fun e=>by subst e;rw [upd_same] at hpj;cases hpj
        rw [upd_ne ph _ e] at hpj
        exact (J.told j hj hpj).other e hops hrel) (fun _=>rfl) J.count J.sema fun mph' k1 _=>(J.mode.early F.nodup hi (by rw [hp];rfl) rfl).stirred k1
    exact ⟨_,_,_,_,n',mph',_,N,M,tp,runT_crowd_go (sl:=sl) hg (by rw [h00];exact hst),by simp,h2,less hlt (by omega),hJ⟩
theorem Join.other (F:Firm P S K st sm b cs Head own D js In)(J:Join P S K st sm b cs Head own D js In T gs w q n mph ph N M tp){i:Nat}{g:Goroutine}(h0:i≠0)(hi:i ∉ js)(hg:gs[i]? = some g)(hr:g.status=.running)(sl:Option (Nat × Nat)) :
    ∃ gs' w' ops q' n' mph',runT P (crowd gs w sl) i=(.next (crowd gs' w' sl),ops)/\gs'.size=gs.size/\Two st sm w w'/\sumTo gs.size q'<sumTo gs.size q/\Join P S K st sm b cs Head own D js In (T++ops) gs' w' q' n' mph' ph N M tp:=by
  obtain ⟨gs',ops,q',d,hrun,hsz,hall,hops,hrel,C',hsum,hq⟩:=J.hall.by_step (sl:=sl) hg h0 hi hr fun j y _ hy c=>J.noSend F hy c
  have hdeaf:∀ j,j≠i->Deaf (T++ops) j=Deaf T j:=fun j hj=>Deaf_other T (fun e=>hj e.symm) _ hops
  have hne:∀ j ∈ js,j≠i:=fun j hj e=>hi (e ▸ hj)
  obtain ⟨g₀,hg0,hIm⟩:=J.first
  obtain ⟨g₁,mph',n',k1,k2,k3,_⟩:=first_behind (w':=w.at d) (N':=N) F.loop J.good hg0 hIm (hall 0 (fun e=>h0 e.symm))
  refine ⟨gs',w.at d,ops,q',n',mph',hrun,hsz,.inl ⟨d,rfl⟩,hsum,C',J.others,F.tick w d J.good,J.count,J.sema,J.warm,J.warm',J.closed,⟨g₁,k1,by rw [hdeaf 0 (fun e=>h0 e.symm)];exact k2⟩,fun j hj=>?_,fun j hj hp=>(J.told j hj hp).other (hne j hj) hops fun op hop=>hrel op hop st,fun e j hj=>?_,J.mode.stirred k3⟩
  · obtain ⟨y,hy,h⟩:=J.people j hj
    refine ⟨y,?_,h.same (hdeaf j (hne j hj)) (hq j (hne j hj))⟩
    rcases hall j (hne j hj) with e|e
    · rw [e];exact hy
    · rw [e,hy,Option.map_some,again_running _ ((h.status J.good J.hall.keep).imp id (·.1))]
  · have hb:mph=.back:=by rcases k3 with k|⟨_,k⟩ <;> rw [k] at e <;> first|exact e|cases e
    exact (J.heard hb j hj).app _
inductive Twos (st sm:Addr):World->World->Prop
  | refl (w:World):Twos st sm w w
  | step {a b c:World}:Two st sm a b->Twos st sm b c->Twos st sm a c
theorem Twos.trans {a b c:World}(h:Twos st sm a b)(k:Twos st sm b c):Twos st sm a c:=by
  induction h with
  | refl=>exact k
  | step h _ ih=>exact .step h (ih k)
theorem Twos.at (w:World)(d:Nat):Twos st sm w (w.at d):=.step (.inl ⟨d,rfl⟩) (.refl _)
theorem Join.run (F:Firm P S K st sm b cs Head own D js In):∀ (μ ν:Nat) (T:Trace) (gs:Array Goroutine) (w:World) (q:Nat->Nat) (mph:MPh) (ph:Nat->Option SPh) (N M:Int) (tp:Nat->Nat) (sl:Option (Nat × Nat)),sumTo gs.size q=μ->Join P S K st sm b cs Head own D js In T gs w q ν mph ph N M tp ->
    ∃ (L:Nat) (gs':Array Goroutine) (w':World) (sl':Option (Nat × Nat)) (T':Trace) (q':Nat->Nat),runNT P L (crowd gs w sl) T=(.next (crowd gs' w' sl'),T')/\gs'.size=gs.size/\Twos st sm w w'/\gs'[0]? = some (G (b.finish (.tuple #[])) cs)/\House P S (left In js) 0 T' gs' w' q':=by
  intro μ
  induction μ using Nat.strongRecOn with
  | _ μ ihμ=>
    intro ν
    induction ν using Nat.strongRecOn with
    | _ ν ihν=>
      intro T gs w q mph ph N M tp sl hμ J
      obtain ⟨i,g,d,sl',hi,hr,hst⟩:=crowd_pick (P:=P) (w:=w) (sl:=sl) (J.awake F) (J.runs F)
      have Jd:=J.at F d
      have stepIt:∀ {gs':Array Goroutine} {u:World} {ops:Trace},runT P (crowd gs (w.at d) sl') i=(.next (crowd gs' u sl'),ops)->runNT P 1 (crowd gs w sl) T=(.next (crowd gs' u sl'),T++ops):=fun {gs' u ops} hr=>by
        have:stepT P (crowd gs w sl)=(.next (crowd gs' u sl'),ops):=by rw [hst];exact hr
        rw [runNT_succ_next this];rfl
      have more:∀ {gs':Array Goroutine} {u:World} {ops:Trace} {q':Nat->Nat} {n':Nat} {mph':MPh} {ph':Nat->Option SPh} {N' M':Int} {tp':Nat->Nat},runT P (crowd gs (w.at d) sl') i=(.next (crowd gs' u sl'),ops)->gs'.size=gs.size->Two st sm (w.at d) u->sumTo gs.size q'<sumTo gs.size q->Join P S K st sm b cs Head own D js In (T++ops) gs' u q' n' mph' ph' N' M' tp' ->
          ∃ (L:Nat) (gs':Array Goroutine) (w':World) (sl':Option (Nat × Nat)) (T':Trace) (q':Nat->Nat),runNT P L (crowd gs w sl) T=(.next (crowd gs' w' sl'),T')/\gs'.size=gs.size/\Twos st sm w w'/\gs'[0]? = some (G (b.finish (.tuple #[])) cs)/\House P S (left In js) 0 T' gs' w' q':=fun {gs' u ops q' n' mph' ph' N' M' tp'} h1 h2 h3 h4 h5=>by
        obtain ⟨L,gs₂,w₂,sl₂,T₂,q₂,k1,k2,k3,k4⟩:=ihμ (sumTo gs'.size q') (by rw [h2];omega) n' _ gs' u q' mph' ph' N' M' tp' sl' rfl h5
        exact ⟨1+L,gs₂,w₂,sl₂,T₂,q₂,by rw [runNT_add,stepIt h1];exact k1,k2.trans h2,(Twos.at w d).trans (.step h3 k3),k4⟩
      by_cases e0:i=0
      · subst e0
        rcases Jd.main F hi hr sl' with ⟨gs',w',ops,n',mph',N',M',h1,h2,h3,h4,h5⟩|⟨gs',ops,h1,h2,h3,h4⟩
        · obtain ⟨L,gs₂,w₂,sl₂,T₂,q₂,k1,k2,k3,k4⟩:=ihν n' h4 _ gs' w' q mph' ph N' M' tp sl' (by rw [h2];exact hμ) h5
          exact ⟨1+L,gs₂,w₂,sl₂,T₂,q₂,by rw [runNT_add,stepIt h1];exact k1,k2.trans h2,(Twos.at w d).trans (.step h3 k3),k4⟩
        · exact ⟨1,gs',w.at d,sl',_,q,stepIt h1,h2,Twos.at w d,h3,h4⟩
      · by_cases hq:i ∈ js
        · cases hp:ph i with
          | none=>
            obtain ⟨gs',w',ops,q',n',mph',ph',N',M',tp',h1,h2,h3,h4,h5⟩:=Jd.seat F hq hi hp sl'
            exact more h1 h2 h3 h4 h5
          | some p=>
            obtain ⟨gs',w',ops,q',n',mph',ph',N',M',tp',h1,h2,h3,h4,h5⟩:=Jd.shard F hq hi hr hp sl'
            exact more h1 h2 h3 h4 h5
        · obtain ⟨gs',w',ops,q',n',mph',h1,h2,h3,h4,h5⟩:=Jd.other F e0 hq hi hr sl'
          exact more h1 h2 h3 h4 h5
end
end
section
open Go.ConcN (sumTo upd sumTo_upd upd_ne upd_same)
theorem setChan_cell {w:World}{D cap k l cap' s r:Nat}{buf:Array Value}{cl cl' tm tm':Bool}(h:w.heap[D]? = some (.chan cap buf cl k l tm))(a:Addr)(buf':Array Value):(w.setChan D cap' buf' cl' s r tm').cell? a=w.cell? a:=by
  unfold World.cell?
  by_cases e:a.block=D
  · rw [e,heap_setChan_self w h,h]
  · rw [heap_setChan_ne _ _ _ _ _ _ _ (fun z=>e z.symm)]
theorem setChan_frozen {w:World}{D cap k l cap' s r:Nat}{buf:Array Value}{cl cl' tm tm':Bool}(h:w.heap[D]? = some (.chan cap buf cl k l tm))(a:Addr)(buf':Array Value):(w.setChan D cap' buf' cl' s r tm').frozen? a=w.frozen? a:=by
  unfold World.frozen?
  by_cases e:a.block=D
  · rw [e,heap_setChan_self w h,h]
  · rw [heap_setChan_ne _ _ _ _ _ _ _ (fun z=>e z.symm)]
section
variable {P:Program}{S:Prot}{K:World->Prop}{st sm:Addr}{b:Frame}{cs:List Frame}{Head:Goroutine->Prop}{own:Addr->Prop}{D:Nat}{js:List Nat}{In:Nat->Option Chair}
def Shut (st sm:Addr) (D cap:Nat) (k:Nat × Nat) (w w':World):Prop:=∃ d,Twos st sm ((w.at d).setChan D cap #[] true k.1 k.2 false) w'
theorem closeGood (S:Prot)(c:Nat):∀ e ∈ closeEvents c,EvGood S e:=by
  intro e he
  simp only [closeEvents,List.mem_toArray,List.mem_cons,List.not_mem_nil,or_false] at he
  rcases he with rfl|rfl <;> exact ⟨by simp,by simp,by simp,by simp,by simp⟩
theorem House.closes (F:Firm P S K st sm b cs Head own D js In){w:World}{a a':Goroutine}{cap m:Nat}{k:Nat × Nat}(hrun:a.status=.running)(hrun':a'.status=.running)(hwake:mayWake P a=true)(hc:w.heap[D]? = some (.chan cap #[] false k.1 k.2 false))
    (hst:∀ d,stepG P true a (w.at d)=.go a' ((w.at d).setChan D cap #[] true k.1 k.2 false) (closeEvents D)) (hz:0 ∉ js) (hseat:∀ j ∈ js,∃ c,In j=some c) (honly:∀ j c,In j=some c->c.seat.has D->j ∈ js)
    (hK:K ((w.at 0).setChan D cap #[] true k.1 k.2 false)) (hN:w.cell? st=some (.int .u64 ((js.length:Int)*4294967296))) (hM:w.cell? sm=some (.int .u32 0)) (hf:w.frozen? st=false) (hf':w.frozen? sm=false)
    (hway:WayD P true K (E0 own) (fun d g=>d=1/\Head g) m 0 a') :
    ∀ (μ:Nat) (T:Trace) (gs:Array Goroutine) (q:Nat->Nat) (sl:Option (Nat × Nat)) (d:Nat),sumTo gs.size q=μ->House P S In 0 T gs (w.at d) q->gs[0]? = some a ->
      ∃ (L:Nat) (gs':Array Goroutine) (w':World) (sl':Option (Nat × Nat)) (T':Trace) (q':Nat->Nat),runNT P L (crowd gs (w.at d) sl) T=(.next (crowd gs' w' sl'),T')/\gs'.size=gs.size/\Shut st sm D cap k w w'/\gs'[0]? = some (G (b.finish (.tuple #[])) cs)/\House P S (left In js) 0 T' gs' w' q':=by
  intro μ
  induction μ using Nat.strongRecOn with
  | _ μ ihμ=>
    intro T gs q sl d hμ C ha
    obtain ⟨i,g,d',sl',hi,hg,hpick⟩:=crowd_pick (P:=P) (w:=w.at d) (sl:=sl) (C.awake ha hrun) ⟨_,_,ha,hrun⟩
    have hat:(w.at d).at d'=w.at d':=rfl
    have Cd:House P S In 0 T gs (w.at d') q:=C.at d'
    have stepIt:∀ {gs':Array Goroutine} {u:World} {ops:Trace},runT P (crowd gs (w.at d') sl') i=(.next (crowd gs' u sl'),ops)->runNT P 1 (crowd gs (w.at d) sl) T=(.next (crowd gs' u sl'),T++ops):=fun {gs' u ops} hr=>by
      have:stepT P (crowd gs (w.at d) sl)=(.next (crowd gs' u sl'),ops):=by rw [hpick,hat];exact hr
      rw [runNT_succ_next this];rfl
    by_cases e:i=0
    · subst e
      rw [ha] at hi
      obtain rfl:=Option.some.inj hi
      have hlt:0<gs.size:=(Array.getElem?_eq_some_iff.1 ha).1
      have hrt:=runT_crowd_go (P:=P) (sl:=sl') ha (hst d')
      generalize hW:(w.at d').setChan D cap #[] true k.1 k.2 false=W at hrt
      have hcd:(w.at d').heap[D]? = some (.chan cap #[] false k.1 k.2 false):=hc
      have hcW:W.heap[D]? = some (.chan cap #[] true k.1 k.2 false):=hW ▸ heap_setChan_self (w.at d') hcd _ _ _ _ _ _
      have hcell:∀ x,W.cell? x=w.cell? x:=fun x=>by rw [← hW,setChan_cell hcd];rfl
      have hfroz:∀ x,W.frozen? x=w.frozen? x:=fun x=>by rw [← hW,setChan_frozen hcd];rfl
      have hopen:∀ (x:Nat) (c':Bool) (cap':Nat) (k':Nat × Nat),x≠D->(w.at d').heap[x]? = some (.chan cap' #[] c' k'.1 k'.2 false)->W.heap[x]? = some (.chan cap' #[] c' k'.1 k'.2 false):=fun x c' cap' k' hne h=>by rw [← hW,heap_setChan_ne _ _ _ _ _ _ _ (fun z=>hne z.symm)];exact h
      obtain ⟨hops,hs,hdf⟩:=good_ops (fn:=a.frame.fn) (pos:=a.frame.place) Cd (closeGood S D)
      have htr:=Cd.tr.work hops hs (near_gone Cd.nearGone)
      have hDeaf:∀ x,Deaf (T++MemOp.ofEvents 0 a.frame.fn a.frame.place (closeEvents D)) x=Deaf T x:=fun x=>by
        by_cases ex:x=0
        · subst ex;exact hdf T
        · exact Deaf_other T (fun z=>ex z.symm) _ hops
      have hwk:∀ y,woken P a a' W y=y.again W:=by intro y;simp [woken,hwake,hrun']
      have hkeepW:∀ j c,In j=some c->c.K W:=fun j c h x v hx=>by rw [hcell];exact Cd.keep j c h x v hx
      have hgs:∀ x,x≠0->((gs.map (woken P a a' W)).setIfInBounds 0 a')[x]? = (gs[x]?).map (·.again W):=fun x hx=>by
        rw [Array.getElem?_setIfInBounds_ne (fun e=>hx e.symm),Array.getElem?_map]
        cases gs[x]? with
        | none=>rfl
        | some y=>simp [hwk]
      have hsame:∀ x y,x≠0->x ∉ js->gs[x]? = some y->y.again W=y:=fun x y hx hq hy=>by
        have hw:=Cd.waits x y hx hy
        cases e:In x with
        | none=>rw [e] at hw;exact again_running W hw.2.status
        | some c=>
          rw [e] at hw
          refine Seated.again (hkeepW x c e) hw (Cd.wf x c e) fun cc hcc=>?_
          obtain ⟨cap',k',h⟩:=Cd.chans x c cc e hcc
          exact ⟨_,_,_,_,_,hopen cc _ _ _ (fun z=>hq (honly x c e (z ▸ hcc))) h⟩
      have hJ:Join P S K st sm b cs Head own D js In (T++MemOp.ofEvents 0 a.frame.fn a.frame.place (closeEvents D)) ((gs.map (woken P a a' W)).setIfInBounds 0 a') W (fun j=>if j ∈ js then (if q j=0 then 301 else q j+300) else q j) (m+200) .begin (fun _=>Option.none) ((js.length:Int)*4294967296) 0 (fun _=>0):=by
        refine ⟨⟨fun j y hj hq hy=>?_,Cd.wf,fun j c x e hq hx=>?_,hkeepW,Cd.prot,Cd.nearGone,Cd.apart,Cd.none,htr,fun j c e _=>(hDeaf j).trans (Cd.hear j c e),fun j hj=>(hDeaf j).trans (Cd.new j (by simpa using hj)),fun j c e=>by simpa using Cd.bound j c e,hz,hseat⟩,fun j hj c x e hx hne=>?_,?_,by rw [hcell];exact hN,by rw [hcell];exact hM,by rw [hfroz];exact hf,by rw [hfroz];exact hf',⟨cap,k,hcW⟩,⟨a',Array.getElem?_setIfInBounds_self_of_lt (by simpa using hlt),m,rfl,by rw [hDeaf,Cd.hears];exact hway⟩,fun j hj=>?_,fun j hj h=>(by cases h),nofun,?_⟩
        · rw [hgs j hj] at hy
          cases ey:gs[j]? with
          | none=>rw [ey] at hy;cases hy
          | some y'=>
            rw [ey,Option.map_some,hsame j y' hj hq ey] at hy
            obtain rfl:=Option.some.inj hy
            rw [hDeaf,if_neg hq]
            exact Cd.waits j y' hj ey
        · obtain ⟨cap',k',h⟩:=Cd.chans j c x e hx
          exact ⟨cap',k',hopen x _ _ _ (fun z=>hq (honly j c e (z ▸ hx))) h⟩
        · obtain ⟨cap',k',h⟩:=Cd.chans j c x e hx
          exact ⟨cap',k',hopen x _ _ _ hne h⟩
        · rw [← hW];exact F.tick _ d' hK
        · have hj0:j≠0:=fun e=>hz (e ▸ hj)
          obtain ⟨c,hcj⟩:=hseat j hj
          have hjlt:=Cd.bound j c hcj
          have hy:=Array.getElem?_eq_getElem hjlt
          have hw:=Cd.waits j _ hj0 hy
          rw [hcj] at hw
          have h00:(j == 0)=false:=beq_eq_false_iff_ne.2 hj0
          obtain ⟨kk,z,hk,_⟩:=(F.exit j hj c hcj).out
          refine ⟨gs[j].again W,by rw [hgs j hj0,hy];rfl,(hDeaf j).trans (Cd.hear j c hcj),c,hcj,?_⟩
          rcases hw with ⟨n,w₀,hq,hgo⟩|⟨hq,g₀,g₂,hge,hat₂⟩
          · have hrj:gs[j].status=.running:=(Seated.status (Cd.keep j c hcj) (.inl ⟨n,w₀,hq,hgo⟩)).elim (·.1) (fun z=>by omega)
            rw [again_running W (.inl hrj)]
            refine ⟨n,w₀,?_,by rw [h00] at hgo;exact hgo⟩
            simp only [if_pos hj,hq,if_neg (show ¬ n+1=0 by omega)]
          · rw [hge,again_some_closed hk hcW]
            refine ⟨0,W,?_,fun w₁ _=>⟨g₂,by have:=hat₂.tries c.seat.cases c.seat.shape;rw [h00] at this;exact this⟩⟩
            simp only [if_pos hj,hq];rfl
        · refine .calm (.inl rfl) (fun j _=>rfl) ?_
          have:cnt js (fun _=>Option.none)=js.length:=by
            unfold cnt
            rw [List.countP_eq_length]
            intro j _;rfl
          rw [this]
      obtain ⟨L,gs',w',sl₂,T',q',k1,k2,k3,k4⟩:=Join.run F _ (m+200) _ _ W _ .begin _ _ _ _ sl' rfl hJ
      exact ⟨1+L,gs',w',sl₂,T',q',by rw [runNT_add,stepIt hrt];exact k1,by rw [k2];simp,⟨d',by rw [hW];exact k3⟩,k4⟩
    · obtain ⟨gs₁,ops,q₁,d₃,hr,hsz,ha₁,C₁,hlt⟩:=Cd.by_step (sl:=sl') hi e hg ha hrun
      obtain ⟨L,gs',w',sl₂,T',q',k1,k2,k3⟩:=ihμ (sumTo gs₁.size q₁) (by rw [hsz];omega) (T++ops) gs₁ q₁ sl' d₃ rfl C₁ ha₁
      exact ⟨1+L,gs',w',sl₂,T',q',by rw [runNT_add,stepIt hr];exact k1,k2.trans hsz,k3⟩
end
end
section
open Go.ConcN (sumTo upd sumTo_upd upd_ne upd_same)
section
variable {P:Program}{Z:Setting P}{g:Z.Gh}{fr fr':Frame}{cs:List Frame}{v:World}{X:Z.Gh->Frame->List Frame->World->Prop}
theorem Like.chanOf {S:Prot}{w v:World}(h:Like S w v){x cap s r:Nat}{cl tm:Bool}(hx:v.heap[x]? = Option.some (.chan cap #[] cl s r tm)):∃ (k:Nat × Nat),w.heap[x]? = Option.some (.chan cap #[] cl k.1 k.2 tm):=by
  have hlt:x<v.heap.size:=(Array.getElem?_eq_some_iff.1 hx).1
  have hw:w.heap[x]? = Option.some (w.heap[x]'(by rw [← h.size];exact hlt)):=Array.getElem?_eq_getElem _
  have:=h.obj x _ _ hw hx
  revert this hw
  generalize w.heap[x]'(by rw [← h.size];exact hlt)=o
  intro hw ho
  cases ho with
  | chan cap cl s r s' r' tm=>exact ⟨(_,_),hw⟩
  | same _ hp=>exact hp.elim
theorem CW.go (ok:Z.Ok){child:Goroutine}{es:Array Event}{c:Chair}{n:Nat}{g':Nat->Z.Gh}{v':Nat->World}
    (hst:∀ w,Like (Z.S g) w v->stepG P true (G fr cs) w=.spawn (G fr' cs) child w es) (hes:∀ e ∈ es,EvGood (Z.S g) e) (hwf:c.seat.Wf) (hch:∀ x,c.seat.has x->∃ cap s r,v.heap[x]? = some (.chan cap #[] false s r false))
    (hK:∀ a x,(a,x) ∈ c.cells->v.cell? a=some x) (hsits:Seated P false c.K c.loc c.B c.seat n child)
    (hS:∀ j,(Z.S g).Le (Z.S (g' j))) (hS':∀ j x,c.still x->(Z.S (g' j)).keep x) (hN':∀ j x,c.near x->(Z.S (g' j)).gone x) (hap:∀ j x,(Z.S (g' j)).gone x->¬ (Z.S (g' j)).keep x)
    (hlike:∀ w j,Like (Z.S g) w v->Like (Z.S (g' j)) w (v' j)) (hJ:∀ w In j,0<j->(∀ i d,In i=some d->i<j)->Like (Z.S g) w v->Z.Jt g w In->Z.Jt (g' j) w (upd In j (some c)))
    (k:∀ j,CW Z (g' j) fr' cs (v' j) X):CW Z g fr cs v X:=by
  intro w hl In T gs q sl H hj ha
  have hlt:0<gs.size:=(Array.getElem?_eq_some_iff.1 ha).1
  obtain ⟨N,gs₁,d',sl',T',q',h1,h2,h3,h4⟩:=hire (h:=0) (S':=Z.S (g' gs.size)) (w:=w) (a:=G fr cs) (a':=G fr' cs) rfl (fun d=>hst (w.at d) (hl.at d)) hes hwf (fun x hx=>by
      obtain ⟨cap,s,r,hx⟩:=hch x hx
      obtain ⟨k,hk⟩:=hl.chanOf hx
      exact ⟨cap,k,hk⟩) (fun a x hx=>hl.cell (hK a x hx)) hsits (hS _) (hS' _) (hN' _) (hap _) T gs q sl w.drawn H ha
  have hok:Z.Jt (g' gs.size) (w.at d') (upd In gs.size (some c)):=(hJ (w.at d') In gs.size hlt (fun i d hd=>H.bound i d hd) (hl.at d')) (ok.atT d' hj)
  obtain ⟨M,gs₂,g₂,fr₂,cs₂,w₂,v₂,sl₂,T₂,q₂,In₂,m1,m2⟩:=k gs.size (w.at d') ((hlike w _ hl).at d') _ T' gs₁ q' sl' h4 hok h3
  exact ⟨N+M,gs₂,g₂,fr₂,cs₂,w₂,v₂,sl₂,T₂,q₂,In₂,by rw [runNT_add,show crowd gs w sl=crowd gs (w.at w.drawn) sl from rfl,h1];exact m1,m2⟩
theorem CW.route {n:Nat}{g':Z.Gh}{cs':List Frame}{v':World}{Rel:World->World->Prop}(hS:Z.S g'=Z.S g)(h:∀ w In,Like (Z.S g) w v->Z.Jt g w In->Route P (Z.S g) (fun a u=>a=G fr' cs'/\Rel w u) n 0 (G fr cs) w)
    (hl':∀ w u d,Like (Z.S g) w v->Rel w u->Like (Z.S g) (u.at d) v') (hJ:∀ w u d In,Like (Z.S g) w v->Z.Jt g w In->Rel w u->Z.Jt g' (u.at d) In) (k:CW Z g' fr' cs' v' X):CW Z g fr cs v X:=by
  intro w hl In T gs q sl H hj ha
  obtain ⟨N,gs₁,a,u,x,sl₁,T₁,q₁,h1,h2,h3,⟨rfl,h4⟩,h5⟩:=House.route (h w In hl hj) sl H ha
  obtain ⟨M,gs₂,g₂,fr₂,cs₂,w₂,v₂,sl₂,T₂,q₂,In₂,m1,m2⟩:=k (u.at x) (by rw [hS];exact hl' w u x hl h4) In T₁ gs₁ q₁ sl₁ (by rw [hS];exact h5) (hJ w u x In hl hj h4) h3
  exact ⟨N+M,gs₂,g₂,fr₂,cs₂,w₂,v₂,sl₂,T₂,q₂,In₂,by rw [runNT_add,h1];exact m1,m2⟩
theorem CW.stops {g':Z.Gh}{b:Frame}{cs':List Frame}{v':World}(hS:Z.S g'=Z.S g)
    (h:∀ w In,Like (Z.S g) w v->Z.Jt g w In->∃ (K:World->Prop) (st sm:Addr) (Head:Goroutine->Prop) (own:Addr->Prop) (D:Nat) (js:List Nat) (cap m:Nat) (k:Nat × Nat) (a':Goroutine),Firm P (Z.S g) K st sm b cs' Head own D js In/\w.heap[D]? = some (.chan cap #[] false k.1 k.2 false) /\
      (∀ d,stepG P true (G fr cs) (w.at d)=.go a' ((w.at d).setChan D cap #[] true k.1 k.2 false) (closeEvents D))/\a'.status=.running/\mayWake P (G fr cs)=true/\0 ∉ js/\(∀ j ∈ js,∃ c,In j=some c)/\(∀ j c,In j=some c->c.seat.has D->j ∈ js) /\
      K ((w.at 0).setChan D cap #[] true k.1 k.2 false)/\w.cell? st=some (.int .u64 ((js.length:Int)*4294967296))/\w.cell? sm=some (.int .u32 0)/\w.frozen? st=false/\w.frozen? sm=false/\WayD P true K (E0 own) (fun d g=>d=1/\Head g) m 0 a' /\
      ∀ w',Shut st sm D cap k w w'->Like (Z.S g) w' v'/\Z.Jt g' w' (left In js))
    (k:CW Z g' (b.finish (.tuple #[])) cs' v' X):CW Z g fr cs v X:=by
  intro w hl In T gs q sl H hj ha
  obtain ⟨K,st,sm,Head,own,D,js,cap,m,kk,a',F,h1,h2,h3,h4,h5,h6,h7,h8,h9,h10,h11,h12,h13,h14⟩:=h w In hl hj
  obtain ⟨L,gs₁,w₁,sl₁,T₁,q₁,k1,k2,k3,k4,k5⟩:=House.closes F (w:=w) rfl h3 h4 h1 h2 h5 h6 h7 h8 h9 h10 h11 h12 h13 _ T gs q sl w.drawn rfl H ha
  obtain ⟨g1,g2⟩:=h14 w₁ k3
  obtain ⟨M,gs₂,g₂,fr₂,cs₂,w₂,v₂,sl₂,T₂,q₂,In₂,m1,m2⟩:=k w₁ (by rw [hS];exact g1) _ T₁ gs₁ q₁ sl₁ (by rw [hS];exact k5) g2 k4
  exact ⟨L+M,gs₂,g₂,fr₂,cs₂,w₂,v₂,sl₂,T₂,q₂,In₂,by rw [runNT_add,show crowd gs w sl=crowd gs (w.at w.drawn) sl from rfl,k1];exact m1,m2⟩
theorem Like.goneSet {S:Prot}{w v:World}(h:Like S w v){a:Addr}(hg:S.gone a)(x:Value):Like S (w.setCell a x) v:=by
  obtain ⟨hsp,hcell,_⟩:=h.gone a hg
  refine ⟨by rw [h.size];simp [World.setCell],fun i o o' hi hi'=>?_,h.still,h.gone,h.os,h.out⟩
  simp only [World.setCell,Array.getElem?_modify] at hi
  by_cases e:a.block=i
  · subst e
    simp only [if_true,Option.map_eq_some_iff] at hi
    obtain ⟨o₁,h1,rfl⟩:=hi
    have hx:(a.spot.isSome)=false:=by rw [hsp];rfl
    unfold World.cell? at hcell
    rw [hi'] at hcell
    have:=h.obj a.block o₁ o' h1 hi'
    cases this with
    | cells c e f g hw hq=>
      simp only [hx,Bool.false_eq_true,if_false] at hcell ⊢
      have:c.size<=a.off:=Array.getElem?_eq_none_iff.1 hcell
      rw [Array.setIfInBounds_eq_of_size_le this]
      exact .cells c e f g hw hq
    | short c c' e f g h0 hle hc hz hn=>
      simp only [hx,Bool.false_eq_true,if_false] at hcell ⊢
      have hlt:c'.size<=a.off:=Array.getElem?_eq_none_iff.1 hcell
      refine .short _ _ _ _ _ h0 (by simpa using hle) (fun i hi=>?_) hz hn
      rw [hc i hi,Array.getElem?_setIfInBounds_ne (by omega)]
    | chan=>exact .chan ..
    | same _ hp=>cases o' <;> first|exact .same _ hp|exact hp.elim
    | odd _ hp hb=>cases o₁ <;> first|exact .odd _ hp hb|exact hp.elim
  · simp only [e,if_false] at hi
    exact h.obj i o o' hi hi'
theorem Like.setChan {S:Prot}{w v:World}(h:Like S w v){D cap s r s' r':Nat}{cl:Bool}(hw:w.heap[D]? = Option.some (.chan cap #[] cl s r false))(hv:v.heap[D]? = Option.some (.chan cap #[] cl s' r' false))(cl':Bool)(x y x' y':Nat) :
    Like S (w.setChan D cap #[] cl' x y false) (v.setChan D cap #[] cl' x' y' false):=by
  refine ⟨by simp [World.setChan,h.size],fun i o o' hi hi'=>?_,fun a ha=>⟨(h.still a ha).1,by rw [setChan_frozen hv];exact (h.still a ha).2⟩,fun a ha=>⟨(h.gone a ha).1,by rw [setChan_cell hv];exact (h.gone a ha).2.1,by simp [World.setChan];exact (h.gone a ha).2.2⟩,h.os,h.out⟩
  by_cases e:D=i
  · subst e
    rw [heap_setChan_self w hw] at hi
    rw [heap_setChan_self v hv] at hi'
    cases hi;cases hi'
    exact .chan ..
  · rw [heap_setChan_ne _ _ _ _ _ _ _ e] at hi hi'
    exact h.obj i o o' hi hi'
theorem Like.twos {S:Prot}{w w' v:World}{st sm:Addr}(h:Like S w v)(h1:S.gone st)(h2:S.gone sm)(k:Twos st sm w w'):Like S w' v:=by
  induction k with
  | refl=>exact h
  | step k _ ih=>
    refine ih ?_
    rcases k with ⟨d,rfl⟩|⟨a,x,ha,_,rfl⟩
    · exact h.at d
    · exact h.goneSet (ha.elim (fun e=>e ▸ h1) fun e=>e ▸ h2) x
theorem Like.shut {S:Prot}{w w' v:World}{st sm:Addr}{D cap s r s' r':Nat}(h:Like S w v)(h1:S.gone st)(h2:S.gone sm)(hw:w.heap[D]? = Option.some (.chan cap #[] false s r false))(hv:v.heap[D]? = Option.some (.chan cap #[] false s' r' false))(k:Shut st sm D cap (s,r) w w') :
    Like S w' (v.setChan D cap #[] true s' r' false):=by
  obtain ⟨d,k⟩:=k
  exact ((h.at d).setChan hw hv true s r s' r').twos h1 h2 k
theorem Twos.cell {w w':World}{st sm a:Addr}(k:Twos st sm w w')(h1:a≠st)(h2:a≠sm):w'.cell? a=w.cell? a:=by
  induction k with
  | refl=>rfl
  | step h _ ih=>rw [ih,h.cell h1 h2]
theorem Shut.cell {w w':World}{st sm a:Addr}{D cap:Nat}{k:Nat × Nat}(h:Shut st sm D cap k w w')(hw:w.heap[D]? = some (.chan cap #[] false k.1 k.2 false))(h1:a≠st)(h2:a≠sm):w'.cell? a=w.cell? a:=by
  obtain ⟨d,h⟩:=h
  rw [h.cell h1 h2,setChan_cell (w:=w.at d) hw];rfl
end
end
end Go.Tame
namespace Go.Proofs.Shardlog
open Go Go.Conc Go.Tame Go.Proofs
section
open Go.ConcN (upd upd_ne upd_same)
variable {Ω:World}
structure Member where
  j:Nat
  sb:Nat
  s:Nat
  W:Nat
structure Rec where
  cb:Nat
  c:Nat
  D:Nat
  ms:List Member
  cnt:Nat
  live:Bool
def keepAt (r:Rec) (x:Member) (a:Addr):Prop:=a=⟨r.cb,0,none⟩∨a=⟨x.sb,0,none⟩∨a=⟨r.c,5,none⟩∨a=⟨x.s,16,none⟩
def protOf (Ω:World) (g:List Rec):Prot:=⟨fun a=>∃ r ∈ g,∃ x ∈ r.ms,keepAt r x a,fun a=>∃ r ∈ g,a=⟨r.c,6,none⟩∨a=⟨r.c,7,none⟩,Ω⟩
noncomputable def seatOf (r:Rec) (x:Member):Seat:={ cases:=seatCases r.D x.W,shape:=.select,home:=fun g=>∃ w0 w1 w2 w3 w4,g=b7 r.cb x.sb r.c x.s r.D x.W w0 w1 w2 w3 w4 }
noncomputable def chairOf (r:Rec) (x:Member):Chair:=
  { seat:=seatOf r x
    cells:=[(⟨r.cb,0,none⟩,.pointer (some ⟨r.c,0,none⟩)),(⟨x.sb,0,none⟩,.pointer (some ⟨x.s,0,none⟩)),(⟨r.c,5,none⟩,.chan (some r.D)),(⟨x.s,16,none⟩,.chan (some x.W))]
    near:=fun a=>a=⟨r.c,6,none⟩∨a=⟨r.c,7,none⟩
    B:=r.cb+x.sb+r.c+x.s+1 }
structure Held (g:List Rec) (w:World) (In:Nat->Option Chair):Prop where
  who:∀ j c,In j=some c->∃ r ∈ g,r.live=true/\∃ x ∈ r.ms,x.j=j/\c=chairOf r x
  sits:∀ r ∈ g,r.live=true->∀ x ∈ r.ms,In x.j=some (chairOf r x)
  count:∀ r ∈ g,r.live=true->w.cell? ⟨r.c,6,none⟩=some (.int .u64 ((r.cnt:Int)*4294967296))/\w.cell? ⟨r.c,7,none⟩=some (.int .u32 0)
  nodup:∀ r ∈ g,r.live=true->(r.ms.map (·.j)).Nodup/\(∀ x ∈ r.ms,x.j≠0)/\r.ms.length<=4
  apart:∀ r ∈ g,∀ r' ∈ g,r.live=true->r'.live=true->(r.D=r'.D->r=r')/\(r.c=r'.c->r=r')/\∀ x ∈ r'.ms,r.D≠x.W
def tmsOf (args:Array Value):Array Value:=args++Array.replicate (2 - args.size) undef
def macrosOf (S:Prot) (cs:List Frame):Macros:=
  { κ:=Unit
    hand:=fun _=>0
    cs:=fun _=>cs
    low:=fun _=>[]
    Sp:=fun f=>f=90∨f=91∨deadFn f=true
    Pre:=fun _ f args _ _ _ w=>(f=90∨f=91)/\∃ c o x,tmsOf args=#[.pointer (some ⟨c,o,none⟩),x]/\w.cell? ⟨c,o,none⟩=some (.int .i32 (if f=90 then 0 else 1))/\w.frozen? ⟨c,o,none⟩=false/\¬ S.keep ⟨c,o,none⟩/\¬ S.gone ⟨c,o,none⟩
    M:=fun _ f args kind a A w _ fr' A' u=>fr'=Tame.ret kind a (.tuple #[])/\A'=A/\∃ ad x d,tmsOf args=#[.pointer (some ad),x]/\u=(w.setCell ad (.int .i32 (if f=90 then 1 else 0))).at d
    BackPre:=fun _ _ _ _=>False
    Back:=fun _ _ _ _ _ _ _ _=>False }
section
variable {g:List Rec}{w v:World}{In:Nat->Option Chair}
theorem enter_two {Q:Program}{f:FuncId}{fn:Func}{args:Array Value}{p x:Value}{kind:CallKind}(hf:Q.funcs[f]? = some fn)(hn:2<=fn.ntmps)(h:tmsOf args=#[p,x]):Frame.enter Q f args kind=Frame.enter Q f #[p,x] kind:=by
  have hs:args.size<=2:=by
    have:=congrArg Array.size h
    simp [tmsOf] at this
    omega
  have e:args++Array.replicate (fn.ntmps - args.size) undef=#[p,x]++Array.replicate (fn.ntmps - 2) undef:=by
    rw [← h]
    unfold tmsOf
    rw [Array.append_assoc]
    congr 1
    apply Array.ext'
    simp only [Array.toList_replicate,Array.toList_append]
    rw [List.replicate_append_replicate]
    congr 1
    omega
  simp only [Frame.enter,hf,Option.map_some,Option.getD_some,e]
  rfl
theorem macrosOk (cs:List Frame):MacrosOk (protOf Ω g) Tryz.prog Tryz.FL (macrosOf (protOf Ω g) cs):=by
  have hL:withFuncs Tryz.prog Tryz.FL=Tryz.L:=rfl
  have dead:∀ (f:FuncId) (fn:Func),Tryz.L.funcs[f]? = some fn->fn.body=some (.refuse "")->∀ args kind (a:Frame) cs' v,Dead1 Tryz.prog Tryz.FL (solo (G (Frame.enter Tryz.L f args kind) (a :: cs')) v):=by
    intro f fn hf hb args kind a cs' v
    have:Frame.enter Tryz.L f args kind=({ base f with kind:=kind }:Frame).at ⟨args++Array.replicate (fn.ntmps - args.size) undef,[]⟩ [.code (.refuse "")]:=by
      simp [Frame.enter,Frame.at,hf,hb,base]
    rw [this]
    exact dead_refuse
  have deadSp:∀ f,deadFn f=true->∃ fn,Tryz.L.funcs[f]? = some fn/\fn.body=some (.refuse ""):=by
    intro f h
    simp only [deadFn,Bool.or_eq_true,beq_iff_eq] at h
    rcases h with ((((((((h|h)|h)|h)|h)|h)|h)|h)|h)|h <;> subst h
    · exact ⟨_,LL.funcOf Tryz.func25 rfl,by kernel_rfl⟩
    · exact ⟨_,LL.funcOf Tryz.func32 rfl,by kernel_rfl⟩
    · exact ⟨_,LL.funcOf Tryz.func34 rfl,by kernel_rfl⟩
    · exact ⟨_,LL.funcOf Tryz.func38 rfl,by kernel_rfl⟩
    · exact ⟨_,LL.funcOf Tryz.func41 rfl,by kernel_rfl⟩
    · exact ⟨_,LL.funcOf Tryz.func121 rfl,by kernel_rfl⟩
    · exact ⟨_,LL.funcOf Tryz.func130 rfl,by kernel_rfl⟩
    · exact ⟨_,LL.funcOf Tryz.func141 rfl,by kernel_rfl⟩
    · exact ⟨_,LL.funcOf Tryz.func250 rfl,by kernel_rfl⟩
    · exact ⟨_,LL.funcOf Tryz.func123 rfl,by kernel_rfl⟩
  have spot:∀ (u:World) (ad:Addr) (y:Value),u.cell? ad=some y->∃ c o,ad=⟨c,o,none⟩:=by
    intro u ad y h
    obtain ⟨c,o,sp⟩:=ad
    cases sp with
    | none=>exact ⟨c,o,rfl⟩
    | some z=>
      unfold World.cell? at h
      split at h <;> simp at h
  have all_ne:∀ A:List Frame,(macrosOf (protOf Ω g) cs).all Tryz.FL () A ≠ []:=fun A e=>by
    simp [Macros.all] at e
  have stand:∀ (f:FuncId) (k n:Int) (fn:Func),(k=0∨k=1)->Tryz.L.funcs[f]? = some fn->fn.body=some (standIn k n)->fn.ntmps=2->fn.results=#[]->∀ (args:Array Value) (kind:CallKind) (a:Frame) (A:List Frame) (w v:World),(kind=.normal∨kind=.deferred)->Like (protOf Ω g) w v ->
      (∃ c o x,tmsOf args=#[.pointer (some ⟨c,o,none⟩),x]/\w.cell? ⟨c,o,none⟩=some (.int .i32 k)/\w.frozen? ⟨c,o,none⟩=false/\¬ (protOf Ω g).keep ⟨c,o,none⟩/\¬ (protOf Ω g).gone ⟨c,o,none⟩ /\
        ∃ steps,∀ t',runN Tryz.L steps (solo (G (Frame.enter Tryz.L f args kind) (a :: (macrosOf (protOf Ω g) cs).all Tryz.FL () A)) (retape v t'))=.next (solo (G (Tame.ret kind a (.tuple #[])) ((macrosOf (protOf Ω g) cs).all Tryz.FL () A)) (retape (v.setCell ⟨c,o,none⟩ (.int .i32 n)) t'))) ∨
      Dead1 Tryz.prog Tryz.FL (solo (G (Frame.enter Tryz.L f args kind) (a :: (macrosOf (protOf Ω g) cs).all Tryz.FL () A)) v):=by
    intro f k n fn hk hf hb hn hr args kind a A w v hkd hl
    rcases stand_any (v:=v) hk hf hb hn hr (args:=args) (kind:=kind) hkd (a:=a) (all_ne A) hl with ⟨ad,x,ht,hc,hz,hrun⟩|h
    · obtain ⟨c,o,rfl⟩:=spot v ad _ hc
      refine .inl ⟨c,o,x,ht,hl.cell hc,?_,fun h=>?_,hl.notGone hc,hrun⟩
      · cases e:w.frozen? ⟨c,o,none⟩ with
        | false=>rfl
        | true=>rw [hl.frozen _ e] at hz;cases hz
      · rw [(hl.still _ h).2] at hz;cases hz
    · exact .inr h
  have st90:=stand 90 0 1 _ (.inl rfl) (LL.funcOf Tryz.func90 rfl) (by kernel_rfl) (by kernel_rfl) (by kernel_rfl)
  have st91:=stand 91 1 0 _ (.inr rfl) (LL.funcOf Tryz.func91 rfl) (by kernel_rfl) (by kernel_rfl) (by kernel_rfl)
  refine ⟨fun m f args kind a A w v hsp hkd hl hpre=>?_,fun m f args kind a A w v m' fr' A' u hsp hkd ha hA hl hpre hM=>?_,fun m h=>absurd rfl h,(fun m b B h=>by cases h),(fun m b B ch v h=>by cases h),(fun m b B kind y w v h=>by cases h),(fun m b B kind y w v m' fr' A' u h=>by cases h)⟩
  · rw [hL]
    rcases hsp with rfl|rfl|hd
    · rcases st90 args kind a A w v hkd hl with ⟨c,o,x,h1,h2,h3,h4,h5,_⟩|h
      · exact absurd ⟨.inl rfl,c,o,x,h1,h2,h3,h4,h5⟩ hpre
      · exact h
    · rcases st91 args kind a A w v hkd hl with ⟨c,o,x,h1,h2,h3,h4,h5,_⟩|h
      · exact absurd ⟨.inr rfl,c,o,x,h1,h2,h3,h4,h5⟩ hpre
      · exact h
    · obtain ⟨fn,h1,h2⟩:=deadSp f hd
      exact dead f fn h1 h2 _ _ _ _ _
  · rw [hL]
    obtain ⟨rfl,rfl,ad,x',d,ht',rfl⟩:=hM
    have fin:∀ (k n:Int) (c o:Nat) (x:Value),tmsOf args=#[.pointer (some ⟨c,o,none⟩),x]->(∃ steps,∀ t',runN Tryz.L steps (solo (G (Frame.enter Tryz.L f args kind) (a :: (macrosOf (protOf Ω g) cs).all Tryz.FL () A')) (retape v t'))=.next (solo (G (Tame.ret kind a (.tuple #[])) ((macrosOf (protOf Ω g) cs).all Tryz.FL () A')) (retape (v.setCell ⟨c,o,none⟩ (.int .i32 n)) t')))->n=(if f=90 then 1 else 0) ->
        FrameOk Tryz.prog Tryz.FL (Tame.ret kind a (.tuple #[]))/\(∀ b ∈ A',FrameOk Tryz.prog Tryz.FL b)/\∃ t v' k,Agree t v.tape v.drawn/\v.drawn<=v'.drawn/\Like (protOf Ω g) ((w.setCell ad (.int .i32 (if f=90 then 1 else 0))).at d) v' /\
          ∀ t',Agree t' t v'.drawn->runN Tryz.L k (solo (G (Frame.enter Tryz.L f args kind) (a :: (macrosOf (protOf Ω g) cs).all Tryz.FL m A')) (retape v t'))=.next (solo (G (Tame.ret kind a (.tuple #[])) ((macrosOf (protOf Ω g) cs).all Tryz.FL m' A')) (retape v' t')):=by
      rintro k n c o x h1 ⟨steps,hrun⟩ rfl
      rw [ht'] at h1
      have e:ad=⟨c,o,none⟩:=by
        have:=congrArg (fun a=>a[0]?) h1
        simp at this
        exact this
      subst e
      exact ⟨ha.ret kind _,hA,v.tape,v.setCell ⟨c,o,none⟩ (.int .i32 (if f=90 then 1 else 0)),steps,Agree.refl _ _,Nat.le_refl _,(hl.setCell _ _).at d,fun t' _=>hrun t'⟩
    rcases hsp with rfl|rfl|hd
    · rcases st90 args kind a A' w v hkd hl with ⟨c,o,x,h1,_,_,_,_,h6⟩|h
      · exact .inr (fin 0 1 c o x h1 h6 rfl)
      · exact .inl h
    · rcases st91 args kind a A' w v hkd hl with ⟨c,o,x,h1,_,_,_,_,h6⟩|h
      · exact .inr (fin 1 0 c o x h1 h6 rfl)
      · exact .inl h
    · obtain ⟨fn,h1,h2⟩:=deadSp f hd
      exact .inl (dead f fn h1 h2 _ _ _ _ _)
end
end
section
variable {Ω:World}
section
variable {g:List Rec}{w w':World}{In:Nat->Option Chair}
theorem Held.same (h:Held g w In)(hw:∀ a,(protOf Ω g).gone a->w'.cell? a=w.cell? a):Held g w' In:=
  ⟨h.who,h.sits,fun r hr hl=>by rw [hw _ ⟨r,hr,.inl rfl⟩,hw _ ⟨r,hr,.inr rfl⟩];exact h.count r hr hl,h.nodup,h.apart⟩
theorem Held.kept (h:Held g w In)(k:Kept (protOf Ω g) w w'):Held g w' In:=h.same fun a ha=>k.still a (.inr ha)
theorem Held.at (h:Held g w In)(d:Nat):Held g (w.at d) In:=h.same (Ω:=w) fun _ _=>rfl
theorem macroRuns (cs:List Frame):MacroRuns Tryz.prog (protOf Ω g) (macrosOf (protOf Ω g) cs) (fun _ w In=>Held g w In):=by
  refine ⟨fun m f args kind a A In T gs w q sl hsp hkd H hj hpre ha=>?_,fun m b rest kind y In T gs w q sl h=>absurd rfl h⟩
  obtain ⟨hf,c,o,x,ht,hc,hz,hk,hg⟩:=hpre
  have held:∀ (n:Int) (d:Nat),Held g ((w.setCell ⟨c,o,none⟩ (.int .i32 n)).at d) In:=fun n d=>hj.same fun b hb=>World.cell?_setCell_other _ _ _ _ (fun e=>hg (e ▸ hb))
  rcases hf with rfl|rfl
  · have hen:Frame.enter Tryz.prog 90 args kind=Frame.enter Tryz.prog 90 #[.pointer (some ⟨c,o,none⟩),x] kind:=enter_two Tryz.func90 (by rw [Tryz.ntmps90];omega) ht
    have hr:Route Tryz.prog (protOf Ω g) (fun g' u=>g'=G (Tame.ret kind a (.tuple #[])) (A++cs)/\∃ d,u=(w.setCell ⟨c,o,none⟩ (.int .i32 1)).at d) 26 0 (kk0 c o x a (A++cs) kind) w:=lock_route hkd hc hz hk hg fun d=>⟨rfl,d,rfl⟩
    have ha':gs[0]? = some (kk0 c o x a (A++cs) kind):=by
      unfold kk0
      rw [← hen]
      exact ha
    obtain ⟨N,gs',g',w',x',sl',T',q',k1,k2,k3,⟨rfl,d,rfl⟩,k5⟩:=House.route hr sl H ha'
    exact ⟨N,gs',(),_,A,_,sl',T',q',In,k1,k2,k3,⟨rfl,rfl,⟨c,o,none⟩,x,x',ht,rfl⟩,k5,held 1 x'⟩
  · have hen:Frame.enter Tryz.prog 91 args kind=Frame.enter Tryz.prog 91 #[.pointer (some ⟨c,o,none⟩),x] kind:=enter_two Tryz.func91 (by rw [Tryz.ntmps91];omega) ht
    have hr:Route Tryz.prog (protOf Ω g) (fun g' u=>g'=G (Tame.ret kind a (.tuple #[])) (A++cs)/\∃ d,u=(w.setCell ⟨c,o,none⟩ (.int .i32 0)).at d) 39 0 (uu0 c o x a (A++cs) kind) w:=unlock_route hkd hc hz hk hg fun d=>⟨rfl,d,rfl⟩
    have ha':gs[0]? = some (uu0 c o x a (A++cs) kind):=by
      unfold uu0
      rw [← hen]
      exact ha
    obtain ⟨N,gs',g',w',x',sl',T',q',k1,k2,k3,⟨rfl,d,rfl⟩,k5⟩:=House.route hr sl H ha'
    exact ⟨N,gs',(),_,A,_,sl',T',q',In,k1,k2,k3,⟨rfl,rfl,⟨c,o,none⟩,x,x',ht,rfl⟩,k5,held 0 x'⟩
def spB (f:Nat):Bool:=f == 90 || f == 91 || deadFn f
theorem codesB:(Tryz.prog.funcs.toList.zipIdx.all fun p=>spB p.2 || (match p.1.body with|some c=>okCode Tryz.prog c|none=>true))=true:=by kernel_rfl
theorem codesOk (cs:List Frame):Codes Tryz.prog Tryz.FL (macrosOf (protOf Ω g) cs).Sp:=by
  intro f fn c hsp hf hb
  have hL:Tryz.FL[f]? = (Tryz.prog.funcs[f]?).map (loneFn f):=by unfold Tryz.FL;rw [Array.getElem?_mapIdx]
  rw [hL] at hf
  cases hp:Tryz.prog.funcs[f]? with
  | none=>rw [hp] at hf;cases hf
  | some fp=>
    rw [hp,Option.map_some] at hf
    have hf:=Option.some.inj hf
    have n90:(f == 90)=false:=beq_eq_false_iff_ne.2 fun e=>hsp (.inl e)
    have n91:(f == 91)=false:=beq_eq_false_iff_ne.2 fun e=>hsp (.inr (.inl e))
    have nd:deadFn f=false:=by
      cases e:deadFn f with
      | false=>rfl
      | true=>exact absurd (.inr (.inr e)) hsp
    have hfn:fn=fp:=by
      rw [← hf]
      unfold loneFn
      simp only [n90,n91,Bool.false_eq_true,if_false,nd]
      cases hbp:fp.body with
      | some c=>cases fp;simp only at hbp;subst hbp;rfl
      | none=>
        exfalso
        rw [← hf] at hb
        unfold loneFn at hb
        simp only [n90,n91,Bool.false_eq_true,if_false,hbp] at hb
        split at hb
        · rw [hbp] at hb;cases hb
        · simp only [hbp] at hb;cases hb
    subst hfn
    refine ⟨rfl,?_⟩
    have hall:=List.all_eq_true.1 codesB (fn,f) (by
      rw [List.mem_zipIdx_iff_getElem?]
      simpa using hp)
    simp only [hb,Bool.or_eq_true] at hall
    rcases hall with h|h
    · simp only [spB,n90,n91,nd,Bool.or_false] at h;cases h
    · exact h
end
end
section
variable {Ω:World}
noncomputable def shut2:Array Oper:=
  #[{ dst:=some 7,op:=.load 23 (.tmp 0),type:=23,pos:= "cluster.go:158",after:=#[],guard:=none },{ dst:=some 8,op:=.nilCheck (.tmp 7),type:=0,pos:= "cluster.go:158",after:=#[{ on:=0,ground:=.data }],guard:=none },
    { dst:=some 9,op:=.fieldAddr 94 (.tmp 8) 5,type:=0,pos:= "cluster.go:158",after:=#[{ on:=1,ground:=.data }],guard:=none },
    { dst:=some 10,op:=.call { callee:=.value (.func 34),args:=#[.tmp 9],argTypes:=#[92] },type:=0,pos:= "cluster.go:158",after:=#[{ on:=2,ground:=.data }],guard:=none }]
section
variable (c B D:Nat)(b:Frame)(cs:List Frame)
def shutTmps (x y z:Value):Array Value:=#[.pointer (some ⟨B,0,none⟩),.pointer (some ⟨c,0,none⟩),.bool false,.pointer (some ⟨c,0,none⟩),.pointer (some ⟨c,0,none⟩),.pointer (some ⟨c,5,none⟩),.chan (some D),x,y,z,undef]
noncomputable def q1:Goroutine:=G ((base 32).at ⟨shutTmps c B D undef undef undef,[]⟩ [.inRegion shut2 [0,1,2,3]]) (b :: cs)
noncomputable def q2:Goroutine:=putOf (q1 c B D b cs) (.pointer (some ⟨c,0,none⟩))
noncomputable def qf:Frame:=(base 32).at ⟨shutTmps c B D (.pointer (some ⟨c,0,none⟩)) (.pointer (some ⟨c,0,none⟩)) (.pointer (some ⟨c,6,none⟩)),[]⟩ [.inRegion shut2 [3]]
end
section
variable {c B D:Nat}{b:Frame}{cs:List Frame}{K:World->Prop}{own:Addr->Prop}
theorem q2_seg (ws:Nat->World):chk Tryz.prog true Event.mute 3 0 (q2 c B D b cs) ws=some (tgt 3 ws,0):=by kernel_rfl
theorem q2_end (ws:Nat->World):fin Tryz.prog true 3 (q2 c B D b cs) ws=m0 c (qf c B D :: b :: cs):=by kernel_rfl
theorem shut_way {ops:Array Oper}(hK:∀ w,K w->w.cell? ⟨B,0,none⟩=some (.pointer (some ⟨c,0,none⟩)))(hown:own ⟨B,0,none⟩) :
    WayD Tryz.prog true K (E0 own) (fun d g=>d=1/\Heads c (qf c B D :: b :: cs) g) 13 0 (G ((base 32).at ⟨shutTmps c B D undef undef undef,[]⟩ [.inRegion ops [],.code (.region 2 shut2 false)]) (b :: cs)):=by
  refine WayD.one (m:=12) (es:=#[]) rfl (fun w _=>stepG_region_end) (by simp) ?_
  refine WayD.one (m:=11) (g':=q1 c B D b cs) (es:=#[]) rfl (fun w _=>stepG_region) (by simp) ?_
  refine WayD.load (m:=10) (g:=q1 c B D b cs) (t:=23) (x:=.tmp 0) (a:=⟨B,0,none⟩) (v:=.pointer (some ⟨c,0,none⟩)) (by kernel_rfl) ⟨by kernel_rfl,by kernel_rfl,by kernel_rfl,by kernel_rfl,by kernel_rfl⟩ (by kernel_rfl) Tryz.und23 rfl (by kernel_rfl) hK (.inr ⟨_,hown,rfl⟩) ?_
  refine WayD.seg (p:=Event.mute) (n:=3) (m:=7) (d':=0) (g:=q2 c B D b cs) (fun _ he=>.inl he) (fun ws=>q2_seg ws) fun ws=>?_
  rw [q2_end]
  exact WayD.events (fun e he=>.inl he) m_begin
end
section
variable {g:List Rec}{r:Rec}{x:Member}{w:World}{In:Nat->Option Chair}{K:World->Prop}{B:Nat}{b:Frame}{cs:List Frame}
theorem exit_result {D W:Nat}:commResult (seatCases D W) .select 1 (.agg #[]) false=.tuple #[goInt 1,.bool false,.nilFunc,.agg #[]]:=by kernel_rfl
theorem exit_way {cb sb c s D W:Nat}{w0 w1:Nat->World}{w2:Nat->Nat->World}{w3 w4:Nat->World}{a:Goroutine}{y:Value}(ha:a=b7 cb sb c s D W w0 w1 w2 w3 w4)(hy:y=.tuple #[goInt 1,.bool false,.nilFunc,.agg #[]])(hK:∀ w,K w->∃ x e f,w.heap[c]? = some (.cells x e f)/\6<x.size) :
    WayD Tryz.prog false K (fun _=>False) (STell Tryz.prog K ⟨c,6,none⟩ ⟨c,7,none⟩) 27 0 (Go.Conc.served a y):=by
  have e:l0 cb sb c s D W w0 w1 w2 w3 w4=Go.Conc.served a y:=by
    rw [ha,hy,l0,forceG_eq]
    rfl
  rw [← e]
  exact s_out hK
theorem chair_exit (hK:∀ w,K w->∃ x e f,w.heap[r.c]? = some (.cells x e f)/\6<x.size):Go.Tame.Exit Tryz.prog K ⟨r.c,6,none⟩ ⟨r.c,7,none⟩ r.D (chairOf r x):=by
  refine ⟨⟨1,.agg #[],rfl,fun g hg=>?_⟩,.inl rfl,.inr rfl⟩
  obtain ⟨w0,w1,w2,w3,w4,e⟩:=hg
  exact exit_way e exit_result hK
def shutK (B c:Nat) (w:World):Prop:=(∃ x e f,w.heap[c]? = some (.cells x e f)/\7<x.size)/\w.cell? ⟨B,0,none⟩=some (.pointer (some ⟨c,0,none⟩))
theorem shutK_set {c:Nat}{a:Addr}{y:Value}(ha:a=⟨c,6,none⟩∨a=⟨c,7,none⟩)(h:shutK B c w):shutK B c (w.setCell a y):=by
  obtain ⟨⟨x,e,f,h1,h2⟩,h3⟩:=h
  refine ⟨?_,?_⟩
  · rcases ha with rfl|rfl
    · exact ⟨x.setIfInBounds 6 y,e,f,by simp [World.setCell,Array.getElem?_modify,h1],by simpa using h2⟩
    · exact ⟨x.setIfInBounds 7 y,e,f,by simp [World.setCell,Array.getElem?_modify,h1],by simpa using h2⟩
  · rw [World.cell?_setCell_other _ _ _ _ (by rcases ha with rfl|rfl <;> simp)]
    exact h3
theorem shut_firm (hr:r ∈ g)(hl:r.live=true)(hj:Held g w In)(hB:¬ (protOf Ω g).gone ⟨B,0,none⟩) :
    Firm Tryz.prog (protOf Ω g) (shutK B r.c) ⟨r.c,6,none⟩ ⟨r.c,7,none⟩ (qf r.c B r.D) (b :: cs) (Heads r.c (qf r.c B r.D :: b :: cs)) (fun a=>a=⟨B,0,none⟩) r.D (r.ms.map (·.j)) In where
  loop:=m_loop fun w h=>h.1
  ne:=by simp
  gone:=⟨r,hr,.inl rfl⟩
  gone':=⟨r,hr,.inr rfl⟩
  mine:=fun a e=>e ▸ hB
  tick:=fun _ _ h=>h
  set:=fun w a x h k=>shutK_set h k
  nodup:=(hj.nodup r hr hl).1
  four:=by rw [List.length_map];exact (hj.nodup r hr hl).2.2
  exit:=fun j hjm c hc=>by
    obtain ⟨x,hx,rfl⟩:=List.mem_map.1 hjm
    rw [hj.sits r hr hl x hx] at hc
    cases hc
    exact chair_exit fun w h=>by obtain ⟨x,e,f,h1,h2⟩:=h.1;exact ⟨x,e,f,h1,by omega⟩
end
end
end Go.Proofs.Shardlog
namespace Go.Tame
section
section
variable {α β:Type}{S:Prot}{P:Program}{F:Array Func}{L:List Nat}
theorem namesPacked_with (d:Nat)(t:TypeId):(withFuncs P F).namesPacked d t=P.namesPacked d t:=by
  induction d generalizing t with
  | zero=>rfl
  | succ d ih=>simp only [Program.namesPacked,ih,packed_with];rfl
theorem methodsOfAPack_with (d:Nat)(t:TypeId):(withFuncs P F).methodsOfAPack d t=P.methodsOfAPack d t:=by
  induction d generalizing t with
  | zero=>rfl
  | succ d ih=>simp only [Program.methodsOfAPack,ih,packed_with];rfl
theorem t_cutType (n:String):T1 S P F L (cutType n):=by
  unfold cutType
  repeat' first
    | with_reducible exact t_pure _
    | with_reducible exact t_stuck _
    | with_reducible refine t_program ?_ ?_
    | rfl
    | split
theorem t_panicString (n:String):T1 S P F L ((panicString n:Sem α)):=by
  unfold panicString
  repeat' first
    | with_reducible exact t_goPanic _
    | with_reducible refine t_program ?_ ?_
    | rfl
theorem t_ofHandle (v:Value):T1 S P F L (Extern.Rtype.ofHandle v):=by
  unfold Extern.Rtype.ofHandle
  repeat' first
    | with_reducible exact t_pure _
    | with_reducible exact t_stuck _
    | with_reducible refine t_program ?_ ?_
    | rfl
    | split
theorem t_handle (t:TypeId):T1 S P F L (Extern.Rtype.handle t):=by
  unfold Extern.Rtype.handle
  repeat' first
    | with_reducible exact t_pure _
    | with_reducible refine t_program ?_ ?_
    | rfl
theorem t_noPack (n:String)(t:TypeId):T1 S P F L (Extern.Rtype.noPack n t):=by
  unfold Extern.Rtype.noPack
  repeat' first
    | with_reducible exact t_pure _
    | with_reducible refine t_unsupported _ ?_
    | with_reducible refine t_program ?_ ?_
    | (simp only [packed_with];try rfl;done)
    | rfl
    | with_reducible refine t_ite _ ?_ ?_
theorem t_noPackNamed (n:String)(t:TypeId):T1 S P F L (Extern.Rtype.noPackNamed n t):=by
  unfold Extern.Rtype.noPackNamed
  repeat' first
    | with_reducible exact t_pure _
    | with_reducible refine t_unsupported _ ?_
    | with_reducible refine t_program ?_ ?_
    | (simp only [namesPacked_with];try rfl;done)
    | rfl
    | with_reducible refine t_ite _ ?_ ?_
theorem t_noPackMethods (n:String)(t:TypeId):T1 S P F L (Extern.Rtype.noPackMethods n t):=by
  unfold Extern.Rtype.noPackMethods
  repeat' first
    | with_reducible exact t_pure _
    | with_reducible refine t_unsupported _ ?_
    | with_reducible refine t_program ?_ ?_
    | (simp only [methodsOfAPack_with];try rfl;done)
    | rfl
    | with_reducible refine t_ite _ ?_ ?_
theorem t_spelt (t:TypeId):T1 S P F L (Extern.Rtype.spelt t):=by
  unfold Extern.Rtype.spelt
  repeat' first
    | with_reducible exact t_typeStr _
    | with_reducible exact t_noPackNamed _ _
    | with_reducible refine t_bind ?_ (fun _=>?_)
theorem t_under (t:TypeId):T1 S P F L (Extern.Rtype.under t):=by
  unfold Extern.Rtype.under
  repeat' first
    | with_reducible exact t_pure _
    | with_reducible exact t_typeInfo _
    | with_reducible refine t_bind ?_ (fun _=>?_)
    | split
theorem t_kind (t:TypeId):T1 S P F L (Extern.Rtype.kind t):=by
  unfold Extern.Rtype.kind
  repeat' first
    | with_reducible exact t_pure _
    | with_reducible exact t_stuck _
    | with_reducible exact t_under _
    | with_reducible refine t_bind ?_ (fun _=>?_)
    | (simp only [byteOfCell_with];try rfl;done)
    | split
theorem t_hasName (t:TypeId):T1 S P F L (Extern.Rtype.hasName t):=by
  unfold Extern.Rtype.hasName
  repeat' first
    | with_reducible exact t_pure _
    | with_reducible exact t_typeInfo _
    | with_reducible refine t_bind ?_ (fun _=>?_)
    | split
theorem t_elem? (t:TypeId):T1 S P F L (Extern.Rtype.elem? t):=by
  unfold Extern.Rtype.elem?
  repeat' first
    | with_reducible exact t_pure _
    | with_reducible exact t_under _
    | with_reducible refine t_bind ?_ (fun _=>?_)
    | split
theorem t_implements (t u:TypeId):T1 S P F L (Extern.Rtype.implements t u):=by
  unfold Extern.Rtype.implements
  repeat' first
    | with_reducible exact t_pure _
    | with_reducible exact t_typeInfo _
    | with_reducible exact t_noPackMethods _ _
    | with_reducible exact t_under _
    | with_reducible refine t_bind ?_ (fun _=>?_)
    | split
theorem t_directly (t u:TypeId):T1 S P F L (Extern.Rtype.directlyAssignable t u):=by
  unfold Extern.Rtype.directlyAssignable
  repeat' first
    | with_reducible exact t_pure _
    | with_reducible exact t_under _
    | with_reducible exact t_hasName _
    | with_reducible refine t_bind ?_ (fun _=>?_)
    | (simp only [byteOfCell_with];try rfl;done)
    | with_reducible refine t_ite _ ?_ ?_
    | split
theorem t_toType (t:TypeId):T1 S P F L (Extern.ReflectliteType.toType t):=by
  unfold Extern.ReflectliteType.toType
  repeat' first
    | with_reducible exact t_pure _
    | with_reducible exact t_cutType _
    | with_reducible exact t_handle _
    | with_reducible refine t_bind ?_ (fun _=>?_)
theorem t_rtElem (t:TypeId):T1 S P F L (Extern.ReflectliteType.elem t):=by
  unfold Extern.ReflectliteType.elem
  repeat' first
    | with_reducible exact t_panicString _
    | with_reducible exact t_spelt _
    | with_reducible exact t_elem? _
    | with_reducible exact t_toType _
    | with_reducible refine t_bind ?_ (fun _=>?_)
    | split
theorem t_rtImplements (t u:TypeId):T1 S P F L (Extern.ReflectliteType.implements_ t u):=by
  unfold Extern.ReflectliteType.implements_
  repeat' first
    | with_reducible exact t_panicString _
    | with_reducible exact t_noPack _ _
    | with_reducible exact t_noPackMethods _ _
    | with_reducible exact t_kind _
    | with_reducible exact t_implements _ _
    | with_reducible refine t_bind ?_ (fun _=>?_)
    | (simp only [byteOfCell_with];try rfl;done)
    | with_reducible refine t_ite _ ?_ ?_
theorem t_rtAssignable (t u:TypeId):T1 S P F L (Extern.ReflectliteType.assignableTo t u):=by
  unfold Extern.ReflectliteType.assignableTo
  repeat' first
    | with_reducible exact t_pure _
    | with_reducible exact t_noPackMethods _ _
    | with_reducible exact t_implements _ _
    | with_reducible exact t_directly _ _
    | with_reducible refine t_bind ?_ (fun _=>?_)
    | (simp only [byteOfCell_with];try rfl;done)
    | with_reducible refine t_ite _ ?_ ?_
theorem t_mkV (t:TypeId)(a:Addr)(n:Nat):T1 S P F L (Extern.ReflectliteValue.mk t a n):=by
  unfold Extern.ReflectliteValue.mk
  repeat' first
    | with_reducible exact t_pure _
    | with_reducible exact t_handle _
    | with_reducible exact t_kind _
    | with_reducible refine t_bind ?_ (fun _=>?_)
theorem t_unpack (v:Value):T1 S P F L (Extern.ReflectliteValue.unpack v):=by
  unfold Extern.ReflectliteValue.unpack
  repeat' first
    | with_reducible exact t_pure _
    | with_reducible exact t_stuck _
    | with_reducible exact t_newVar _ _
    | with_reducible exact t_mkV _ _ _
    | with_reducible refine t_bind ?_ (fun _=>?_)
    | split
theorem t_valueError (n:String)(k:Nat):T1 S P F L ((Extern.ReflectliteValue.valueError n k:Sem α)):=by
  unfold Extern.ReflectliteValue.valueError
  repeat' first
    | with_reducible exact t_goPanic _
    | with_reducible exact t_elemOf _
    | with_reducible exact t_newVar _ _
    | with_reducible exact t_cutType _
    | with_reducible refine t_bind ?_ (fun _=>?_)
theorem t_rvIsNil (t:TypeId)(a:Addr)(x k:Nat):T1 S P F L (Extern.ReflectliteValue.isNil t a x k):=by
  unfold Extern.ReflectliteValue.isNil
  repeat' first
    | with_reducible exact t_pure _
    | with_reducible exact t_loadVar _ _
    | with_reducible exact t_valueError _ _
    | with_reducible refine t_bind ?_ (fun _=>?_)
    | (simp only [byteOfCell_with];try rfl;done)
    | with_reducible refine t_ite _ ?_ ?_
    | split
theorem t_rvElem (t:TypeId)(a:Addr)(x k:Nat):T1 S P F L (Extern.ReflectliteValue.elem t a x k):=by
  unfold Extern.ReflectliteValue.elem
  repeat' first
    | with_reducible exact t_pure _
    | with_reducible exact t_loadVar _ _
    | with_reducible exact t_elem? _
    | with_reducible exact t_mkV _ _ _
    | with_reducible exact t_unpack _
    | with_reducible exact t_valueError _ _
    | with_reducible refine t_bind ?_ (fun _=>?_)
    | (simp only [byteOfCell_with];try rfl;done)
    | with_reducible refine t_ite _ ?_ ?_
    | split
end
set_option linter.unusedSimpArgs false
section
variable {α β:Type}{S:Prot}{P:Program}{F:Array Func}{L:List Nat}
theorem t_partsAny (v:Value):T1 S P F L (Extern.ReflectliteValue.partsAny v):=by
  cases v <;> first|exact t_stuck _|skip
  rename_i cs
  obtain ⟨l⟩:=cs
  match l with
  | []=>exact t_stuck _
  | [_]=>exact t_stuck _
  | [_,_]=>exact t_stuck _
  | _ :: _ :: _ :: _ :: _=>exact t_stuck _
  | [h,y,z]=>
    cases z <;> first|exact t_stuck _|skip
    rename_i k n
    cases k <;> first|exact t_stuck _|skip
    match n with
    | .ofNat 0=>exact t_pure _
    | .ofNat (m+1)=>
      cases y <;> first|exact t_stuck _|skip
      rename_i o
      cases o with
      | none=>exact t_stuck _
      | some a=>exact t_bind (t_ofHandle _) fun _=>t_pure _
    | .negSucc m=>
      cases y <;> first|exact t_stuck _|skip
      rename_i o
      cases o with
      | none=>exact t_stuck _
      | some a=>exact t_bind (t_ofHandle _) fun _=>t_pure _
theorem t_ofRtype (v:Value):T1 S P F L (Extern.ReflectliteType.ofRtype v):=by
  cases v <;> first|exact t_stuck _|skip
  rename_i cs
  obtain ⟨l⟩:=cs
  match l with
  | []=>exact t_stuck _
  | _ :: _ :: _=>exact t_stuck _
  | [h]=>exact t_bind (t_ofHandle _) fun _=>t_bind (t_noPack _ _) fun _=>t_pure _
theorem t_parts (v:Value):T1 S P F L (Extern.ReflectliteValue.parts v):=by
  unfold Extern.ReflectliteValue.parts
  refine t_bind (t_partsAny v) fun r=>?_
  split
  · exact t_bind (t_noPack _ _) fun _=>t_pure _
  · exact t_pure _
theorem t_vMethod {zero:Sem Value}{f:TypeId->Addr->Nat->Nat->Sem Value}(hz:T1 S P F L zero)(hf:∀ t a x k,T1 S P F L (f t a x k))(args:Array Value):T1 S P F L (Extern.ReflectliteValue.method zero f args):=by
  obtain ⟨l⟩:=args
  match l with
  | []=>exact t_stuck _
  | _ :: _ :: _=>exact t_stuck _
  | [v]=>
    refine t_bind (t_parts v) fun r=>?_
    cases r with
    | none=>exact hz
    | some p=>exact hf _ _ _ _
theorem t_vMethodAny {zero:Sem Value}{f:TypeId->Addr->Nat->Nat->Sem Value}(hz:T1 S P F L zero)(hf:∀ t a x k,T1 S P F L (f t a x k))(args:Array Value):T1 S P F L (Extern.ReflectliteValue.methodAny zero f args):=by
  obtain ⟨l⟩:=args
  match l with
  | []=>exact t_stuck _
  | _ :: _ :: _=>exact t_stuck _
  | [v]=>
    refine t_bind (t_partsAny v) fun r=>?_
    cases r with
    | none=>exact hz
    | some p=>exact hf _ _ _ _
theorem t_rMethod {f:TypeId->Sem Value}(hf:∀ t,T1 S P F L (f t))(args:Array Value):T1 S P F L (Extern.ReflectliteType.method f args):=by
  obtain ⟨l⟩:=args
  match l with
  | []=>exact t_stuck _
  | _ :: _ :: _=>exact t_stuck _
  | [v]=>exact t_bind (t_ofRtype v) fun r=>hf r
theorem t_relation (w:String){f:TypeId->TypeId->Sem Bool}(hf:∀ t u,T1 S P F L (f t u))(args:Array Value):T1 S P F L (Extern.ReflectliteType.relation w f args):=by
  obtain ⟨l⟩:=args
  match l with
  | []=>exact t_stuck _
  | [_]=>exact t_stuck _
  | _ :: _ :: _ :: _=>exact t_stuck _
  | [r,u]=>
    cases u <;> first|exact t_stuck _|exact t_panicString _|skip
    exact t_bind (t_ofRtype _) fun _=>t_bind (t_ofRtype _) fun _=>t_bind (hf _ _) fun _=>t_pure _
theorem t_typeOf (args:Array Value):T1 S P F L (Extern.ReflectliteType.typeOf args):=by
  obtain ⟨l⟩:=args
  match l with
  | []=>exact t_stuck _
  | _ :: _ :: _=>exact t_stuck _
  | [v]=>cases v <;> first|exact t_stuck _|exact t_pure _|exact t_toType _
theorem t_set (args:Array Value):T1 S P F L (Extern.ReflectliteValue.set args):=by
  obtain ⟨l⟩:=args
  match l with
  | []=>exact t_stuck _
  | [_]=>exact t_stuck _
  | _ :: _ :: _ :: _=>exact t_stuck _
  | [v,x]=>
    refine t_bind (t_parts _) fun p=>?_
    refine t_bind (t_parts _) fun r=>?_
    cases p with
    | none=>exact t_unsupported _ rfl
    | some p=>
      cases r with
      | none=>exact t_unsupported _ rfl
      | some r=>
        obtain ⟨dst,a,fl⟩:=p
        obtain ⟨src,b,g⟩:=r
        refine t_ite _ (t_bind (t_unsupported _ rfl) fun _=>?_) ?_
        all_goals
          refine t_bind (t_loadVar _ _) fun val=>t_bind (t_directly _ _) fun c=>?_
          refine t_ite _ (t_bind (t_storeVar _ _ _) fun _=>t_pure _) ?_
          refine t_bind (t_implements _ _) fun c=>?_
          refine t_ite _ ?_ (t_bind (t_spelt _) fun _=>t_bind (t_spelt _) fun _=>t_bind (t_panicString _) fun _=>t_pure _)
          refine t_bind (t_kind _) fun k=>?_
          refine t_ite _ ?_ (t_bind (t_storeVar _ _ _) fun _=>t_pure _)
          split
          · exact t_bind (t_unsupported _ rfl) fun _=>t_pure _
          · exact t_bind (t_storeVar _ _ _) fun _=>t_pure _
theorem t_row {f:FuncId}{fn:Func}{e:Array Value->Sem Value}(hf:F[f]? = some fn)(hp:P.funcs[f]? = some fn)(hn:(fn.name == "runtime.NumGoroutine")=false)(hb:fn.body.isNone=true)(h1:Extern.findNext fn=none)(h2:Extern.find fn=some e)
    (args:Array Value) (he:T1 S P F L (e args)):T1 S P F L (callFunc f args):=by
  have hk:T1 S P F L (do mark (.extern f);pure (Next.value (← e args)):Sem Next):=t_bind (t_mark _ (by simp)) fun _=>t_bind he fun _=>t_pure _
  have eq:∀ Q:Program,Q.funcs[f]? = some fn->∀ x,(callFunc f args).run Q x=(do mark (.extern f);pure (Next.value (← e args)):Sem Next).run Q x/\(callFunc f args).events Q x #[] = (do mark (.extern f);pure (Next.value (← e args)):Sem Next).events Q x #[]:=by
    intro Q hq x
    have h0:(callFunc f args).run Q x=(match Q.funcs[f]? with
      | none=>(stuck "call: no such function" : Sem Next)
      | some fn=>if fn.name == "runtime.NumGoroutine" then pure .numGoroutine else if fn.body.isNone then _ else _).run Q x:=rfl
    constructor
    · unfold callFunc
      show (match Q.funcs[f]? with|none=>_|some fn=>_:Sem Next).run Q x=_
      rw [hq];simp [hb,hn,h1,h2]
    · unfold callFunc
      show (match Q.funcs[f]? with|none=>_|some fn=>_:Sem Next).events Q x #[] = _
      rw [hq];simp [hb,hn,h1,h2]
  intro w v hl hL
  obtain ⟨t,r,g1,g2,g3,g4⟩:=hk w v hl hL
  refine ⟨t,r,g1,g2,fun t' ht'=>by rw [(eq (withFuncs P F) hf _).1];exact g3 t' ht',?_⟩
  match r,g4 with
  | .ok x v',⟨w',a,b,c,d⟩=>exact ⟨w',(eq P hp w).1.trans a,b,c,by rw [(eq P hp w).2];exact d⟩
  | .halt (.panic x) v',⟨w',a,b,c,d⟩=>exact ⟨w',(eq P hp w).1.trans a,b,c,by rw [(eq P hp w).2];exact d⟩
  | .halt .blocked _,d | .halt .waiting _,d | .halt .goexit _,d | .halt (.exit _) _,d | .halt (.fatal _) _,d | .halt (.throw _) _,d=>exact d.elim
  | .halt (.unsupported _) _,d | .halt (.stuck _) _,d=>exact d
end
end
section
section
variable {α β:Type}{S:Prot}{P:Program}{F:Array Func}{L:List Nat}
theorem t_noPackHeld (n:String)(t:TypeId):T1 S P F L (Extern.Rtype.noPackHeld n t):=by
  unfold Extern.Rtype.noPackHeld
  repeat' first
    | with_reducible exact t_pure _
    | with_reducible exact t_unsupported _ rfl
    | with_reducible refine t_program ?_ ?_
    | with_reducible refine t_bind ?_ (fun _=>?_)
    | (simp only [holdsPacked_with];try rfl;done)
    | rfl
    | with_reducible refine t_ite _ ?_ ?_
    | dsimp only
    | split
theorem t_abi {f:TypeId->Sem Value}(hf:∀ t,T1 S P F L (f t))(args:Array Value):T1 S P F L (Extern.ReflectliteType.abiMethod f args):=by
  obtain ⟨l⟩:=args
  match l with
  | []=>exact t_stuck _
  | _ :: _ :: _=>exact t_stuck _
  | [v]=>exact t_bind (t_ofHandle _) fun t=>t_bind (t_noPack _ _) fun _=>hf t
end
end
end Go.Tame
namespace Go.Proofs.Shardlog
open Go Go.Conc Go.Tame Go.Proofs
section
variable {Ω:World}
theorem look1:Extern.allGenericRows.lookup "dead" = none:=by kernel_rfl
theorem look2:Extern.allTypedRows.lookup "dead" = none:=by kernel_rfl
theorem look3:Extern.allRows.lookup "dead" = none:=by kernel_rfl
theorem look4:Extern.allNextRows.lookup "dead" = none:=by kernel_rfl
theorem find_dead (fn:Func)(h1:fn.name = "dead")(h2:fn.origin = "dead"):Extern.find fn=none/\Extern.findNext fn=none:=by
  constructor
  · unfold Extern.find
    simp only [h1,h2,look1,look2,look3]
    rfl
  · unfold Extern.findNext
    simp only [h1,h2,look4]
    rfl
theorem namesB:(Tryz.prog.funcs.toList.all fun fn=>!(fn.name == "runtime.NumGoroutine"))=true:=by kernel_rfl
theorem callFunc_row {Q:Program}{f:FuncId}{fn:Func}{e:Array Value->Sem Value}(h:Q.funcs[f]? = some fn)(hn:(fn.name == "runtime.NumGoroutine")=false)(hb:fn.body.isNone=true)(h1:Extern.findNext fn=none)(h2:Extern.find fn=some e)(args:Array Value)(x:World) :
    (callFunc f args).run Q x=(do mark (.extern f);pure (Next.value (← e args)):Sem Next).run Q x:=by
  unfold callFunc
  show (match Q.funcs[f]? with|none=>_|some fn=>_:Sem Next).run Q x=_
  rw [h];simp [hb,hn,h1,h2]
theorem callFunc_dead {Q:Program}{f:FuncId}{fn:Func}(h:Q.funcs[f]? = some fn)(hn:fn.name = "dead")(ho:fn.origin = "dead")(hb:fn.body.isNone=true)(args:Array Value)(x:World) :
    (callFunc f args).run Q x=.halt (.unsupported (.extern "dead")) x:=by
  have h0:("dead" == "runtime.NumGoroutine")=false:=by decide
  have h3:("dead".endsWith ".init")=false:=by kernel_rfl
  unfold callFunc
  show (match Q.funcs[f]? with|none=>_|some fn=>_:Sem Next).run Q x=_
  rw [h]
  simp [hb,hn,h0,(find_dead fn hn ho).1,(find_dead fn hn ho).2,h3]
structure LiveRow (S:Prot) (f:Nat):Prop where
  row:∃ (fn:Func) (e:Array Value->Sem Value),Tryz.prog.funcs[f]? = some fn/\Extern.findNext fn=none/\Extern.find fn=some e/\∀ (L:List Nat) (args:Array Value),T1 S Tryz.prog Tryz.FL L (e args)
theorem liveRows (S:Prot)(f:Nat)(h:liveRow f=true):LiveRow S f:=by
  simp only [liveRow,Bool.or_eq_true,beq_iff_eq] at h
  rcases h with (((((((((h|h)|h)|h)|h)|h)|h)|h)|h)|h)|h <;> subst h
  · exact ⟨_,fun args=>Extern.ReflectliteValue.unpack (args.getD 0 (.tuple #[])),Tryz.func84,by kernel_rfl,by kernel_rfl,fun L args=>t_unpack _⟩
  · exact ⟨_,Extern.ReflectliteValue.methodAny (Extern.ReflectliteValue.valueError "reflectlite.Value.Type" 0) fun t _ _ _=>Extern.ReflectliteType.toType t,Tryz.func85,by kernel_rfl,by kernel_rfl,fun L args=>t_vMethodAny (t_valueError _ _) (fun _ _ _ _=>t_toType _) _⟩
  · exact ⟨_,Extern.ReflectliteValue.method (Extern.ReflectliteValue.valueError "reflectlite.Value.IsNil" 0) Extern.ReflectliteValue.isNil,Tryz.func86,by kernel_rfl,by kernel_rfl,fun L args=>t_vMethod (t_valueError _ _) (fun _ _ _ _=>t_rvIsNil _ _ _ _) _⟩
  · exact ⟨_,Extern.ReflectliteType.typeOf,Tryz.func88,by kernel_rfl,by kernel_rfl,fun L args=>t_typeOf _⟩
  · exact ⟨_,Extern.ReflectliteValue.method (Extern.ReflectliteValue.valueError "reflectlite.Value.Elem" 0) Extern.ReflectliteValue.elem,Tryz.func118,by kernel_rfl,by kernel_rfl,fun L args=>t_vMethod (t_valueError _ _) (fun _ _ _ _=>t_rvElem _ _ _ _) _⟩
  · exact ⟨_,Extern.ReflectliteValue.set,Tryz.func119,by kernel_rfl,by kernel_rfl,fun L args=>t_set _⟩
  · exact ⟨_,Extern.ReflectliteType.abiMethod fun t=>do pure (.int .u8 (← Extern.Rtype.kind t)),Tryz.func288,by kernel_rfl,by kernel_rfl,fun L args=>t_abi (fun _=>t_bind (t_kind _) fun _=>t_pure _) _⟩
  · exact ⟨_,Extern.ReflectliteType.relation "AssignableTo" Extern.ReflectliteType.assignableTo,Tryz.func303,by kernel_rfl,by kernel_rfl,fun L args=>t_relation _ (fun _ _=>t_rtAssignable _ _) _⟩
  · exact ⟨_,Extern.ReflectliteType.method fun t=>do Extern.Rtype.noPackHeld "Comparable" t;pure (.bool (← typeInfo t).comparable),Tryz.func304,by kernel_rfl,by kernel_rfl,fun L args=>t_rMethod (fun _=>t_bind (t_noPackHeld _ _) fun _=>t_bind (t_typeInfo _) fun _=>t_pure _) _⟩
  · exact ⟨_,Extern.ReflectliteType.method Extern.ReflectliteType.elem,Tryz.func305,by kernel_rfl,by kernel_rfl,fun L args=>t_rMethod (fun _=>t_rtElem _) _⟩
  · exact ⟨_,Extern.ReflectliteType.relation "Implements" Extern.ReflectliteType.implements_,Tryz.func306,by kernel_rfl,by kernel_rfl,fun L args=>t_relation _ (fun _ _=>t_rtImplements _ _) _⟩
theorem fl_get (f:Nat):Tryz.FL[f]? = (Tryz.prog.funcs[f]?).map (loneFn f):=by unfold Tryz.FL;rw [Array.getElem?_mapIdx]
theorem name_prog {f:Nat}{fn:Func}(h:Tryz.prog.funcs[f]? = some fn):(fn.name == "runtime.NumGoroutine")=false:=by
  have:=List.all_eq_true.1 namesB fn (by
    have:Tryz.prog.funcs.toList[f]? = some fn:=by simpa using h
    exact List.mem_of_getElem? this)
  simpa using this
theorem bodiless {f:Nat}{fn:Func}(h:Tryz.FL[f]? = some fn)(hb:fn.body.isNone=true):(liveRow f=true/\Tryz.prog.funcs[f]? = some fn)∨(fn.name = "dead" /\ fn.origin = "dead"):=by
  rw [fl_get] at h
  cases hp:Tryz.prog.funcs[f]? with
  | none=>rw [hp] at h;cases h
  | some fp=>
    rw [hp,Option.map_some] at h
    have h:=Option.some.inj h
    rw [← h] at hb ⊢
    unfold loneFn at hb ⊢
    by_cases h90:(f == 90)=true
    · simp [h90] at hb
    · by_cases h91:(f == 91)=true
      · simp [h90,h91] at hb
      · simp only [h90,h91,Bool.false_eq_true,if_false] at hb ⊢
        cases hbp:fp.body with
        | some c=>simp [hbp] at hb
        | none=>
          simp only [hbp]
          by_cases hlv:liveRow f=true
          · simp [hlv]
          · simp [hlv]
theorem funcsOk (S:Prot):Funcs S Tryz.prog Tryz.FL:=by
  have numF:∀ (f:FuncId) (fn:Func),Tryz.FL[f]? = some fn->(fn.name == "runtime.NumGoroutine")=false:=by
    intro f fn h
    rw [fl_get] at h
    cases hp:Tryz.prog.funcs[f]? with
    | none=>rw [hp] at h;cases h
    | some fp=>
      rw [hp,Option.map_some] at h
      have h:=Option.some.inj h
      have hn:=name_prog hp
      rw [← h]
      unfold loneFn
      split
      · exact hn
      · split
        · exact hn
        · split
          · exact hn
          · split
            · exact hn
            · show ("dead" == "runtime.NumGoroutine")=false
              decide
  refine ⟨numF,fun f fn h hb=>?_,fun f fn args v h hb n v' hr=>?_,fun f fn L args h hb=>?_⟩
  · rw [fl_get] at h
    cases hp:Tryz.prog.funcs[f]? with
    | none=>rw [hp] at h;cases h
    | some fp=>
      refine ⟨fp,rfl,?_,name_prog hp⟩
      rw [hp,Option.map_some] at h
      have h:=Option.some.inj h
      cases hbp:fp.body with
      | some c=>rfl
      | none=>
        by_cases h90:f=90
        · subst h90
          rw [Tryz.func90] at hp
          cases hp
          exact absurd hbp (by
            intro e
            have:Tryz.f90.body.isNone=true:=by rw [e];rfl
            rw [show Tryz.f90.body.isNone=false from by kernel_rfl] at this
            cases this)
        · by_cases h91:f=91
          · subst h91
            rw [Tryz.func91] at hp
            cases hp
            exact absurd hbp (by
              intro e
              have:Tryz.f91.body.isNone=true:=by rw [e];rfl
              rw [show Tryz.f91.body.isNone=false from by kernel_rfl] at this
              cases this)
          · rw [← h] at hb
            unfold loneFn at hb
            simp only [beq_eq_false_iff_ne.2 h90,beq_eq_false_iff_ne.2 h91,Bool.false_eq_true,if_false,hbp] at hb
            split at hb
            · rw [hbp] at hb;cases hb
            · simp [hbp] at hb
  · have h':(withFuncs Tryz.prog Tryz.FL).funcs[f]? = some fn:=by rw [wf_funcs];exact h
    rcases bodiless h hb with ⟨hlv,hp⟩|⟨hn,ho⟩
    · obtain ⟨fn',e,g1,g2,g3,_⟩:=(liveRows S f hlv).row
      rw [hp] at g1
      cases g1
      rw [callFunc_row (Q:=withFuncs Tryz.prog Tryz.FL) h' (numF f fn h) hb g2 g3] at hr
      obtain ⟨_,v₁,_,h2⟩:=run_bind_ok hr
      obtain ⟨y,v₂,_,h4⟩:=run_bind_ok h2
      cases h4
      exact ⟨y,rfl⟩
    · rw [callFunc_dead (Q:=withFuncs Tryz.prog Tryz.FL) h' hn ho hb] at hr
      cases hr
  · have h':(withFuncs Tryz.prog Tryz.FL).funcs[f]? = some fn:=by rw [wf_funcs];exact h
    rcases bodiless h hb with ⟨hlv,hp⟩|⟨hn,ho⟩
    · obtain ⟨fn',e,g1,g2,g3,g4⟩:=(liveRows S f hlv).row
      rw [hp] at g1
      cases g1
      exact t_row h hp (numF f fn h) hb g2 g3 args (g4 L args)
    · intro w v hl hL
      refine ⟨v.tape,.halt (.unsupported (.extern "dead")) v,Agree.refl _ _,Nat.le_refl _,fun t' _=>?_,trivial⟩
      exact callFunc_dead (Q:=withFuncs Tryz.prog Tryz.FL) h' hn ho hb args _
noncomputable def ZZ (Ω:World):Setting Tryz.prog:=
  { Gh:=List Rec,S:=protOf Ω,F:=fun _=>Tryz.FL,C:=fun g cs=>macrosOf (protOf Ω g) cs,top:=fun _ _=>(),J:=fun g _ _ w In=>Held g w In,Jt:=Held }
set_option maxRecDepth 100000 in
theorem ZZ.ok {Ω:World}:(ZZ Ω).Ok:=
  { hand:=fun _ _=>rfl
    cs:=fun _ _=>rfl
    low:=fun _ _=>rfl
    only:=fun _ _ _ _=>rfl
    jt:=fun _ _ _ _=>Iff.rfl
    keep:=fun _ _ _ _ _ _ k h=>Held.kept h k
    tick:=fun _ _ _ _ _ d h=>Held.at h d
    runs:=fun g cs=>macroRuns (g:=g) cs
    funcs:=fun g=>funcsOk (protOf Ω g)
    codes:=fun g cs=>codesOk (g:=g) cs
    macros:=fun g cs=>macrosOk (g:=g) cs }
end
end Go.Proofs.Shardlog
